package front_test

import (
	"math/rand"
	"strings"
	"testing"

	"slim/api"
	"slim/front"
)

type inferred struct {
	src  string
	err  api.Errno
	at   int
	want string // with / between lines, as DOC.md writes it
}

func checkInferred(t *testing.T, list []inferred) {
	t.Helper()
	for _, c := range list {
		want := ""
		if c.want != "" {
			want = strings.ReplaceAll(c.want, " / ", "\n") + "\n"
		}
		text, err, at := new(front.Compiler).Infer(c.src)
		if text != want || err != c.err || at != c.at {
			t.Errorf("P7: Infer(%q) = %q, %d, %d, want %q, %d at %d", c.src, text, err, at, want, c.err, c.at)
		}
	}
}

func TestInferExamples(t *testing.T) {
	checkInferred(t, []inferred{
		{"1+true", api.ErrType, 2, ""},
		{"if 1 then 2 else 3", api.ErrType, 3, ""},
		{"if true then 1 else()", api.ErrType, 19, ""},
		{"let rec f x=f in 1", api.ErrType, 12, ""},
		{"fun x->x", api.ErrType, 0, ""},
		{"true", api.ErrType, 0, ""},
		{"1;2", api.ErrType, 0, ""},
		{"(fun x->x)1 2", api.ErrType, 1, ""},
		{"let f=fun x y->x in f 1", api.ErrType, 20, ""},
		{"let(a,b)=(1,2,3)in a", api.ErrType, 9, ""},
		{"let a=array 1 0 in put a 0 true;1", api.ErrType, 27, ""},
		{"true=true", api.ErrType, 0, ""},
		{"if 1<true then 1 else 2", api.ErrType, 5, ""},
		{"if not 1 then 1 else 2", api.ErrType, 7, ""},
		{"len 1", api.ErrType, 4, ""},
		{"print true;1", api.ErrType, 6, ""},
		{"len(array true 1)", api.ErrType, 10, ""},
		{"(1,2).(0)", api.ErrType, 0, ""},
		{"(array 1 2).(true)", api.ErrType, 13, ""},
		{"--()", api.ErrType, 2, ""},
		{"let f=fun x->x in let y=f true in f 1", api.ErrType, 34, ""},
		{"A", api.ErrLex, 0, ""},
		{"1 (* 2", api.ErrLex, 2, ""},
		{"x", api.ErrUnbound, 0, ""},
		{"let x=x in 1", api.ErrUnbound, 6, ""},
		{"let rec f x=1 in x", api.ErrUnbound, 17, ""},
		{"(fun x->x)y", api.ErrUnbound, 10, ""},
		{"1 2)", api.ErrSyntax, 3, ""},
		{"", api.ErrSyntax, 0, ""},
		{"let in", api.ErrSyntax, 4, ""},
		{"let rec f=1 in 2", api.ErrSyntax, 9, ""},
		{"1<2<3", api.ErrSyntax, 3, ""},
		{"(1,2,3,4,5,6,7)", api.ErrSyntax, 12, ""},
		{"f 1 2 3 4 5", api.ErrSyntax, 10, ""},
		{"f -", api.ErrSyntax, 3, ""},
		{"1+?", api.ErrLex, 2, ""},
		{"1(*(*a*)", api.ErrLex, 1, ""},
		{"1+2x", api.ErrNum, 2, ""},
		{"4611686018427387904", api.ErrNum, 0, ""},
		{"(((((((((((((1", api.ErrNest, 12, ""},
		{"4611686018427387903", api.OK, 0, ""},
		{"((((((((((((1))))))))))))", api.OK, 0, ""},
		{"let rec f x y=if x then y else f(not x)y in f true 2", api.OK, 0, "f:(bool,int->int) / x:bool / y:int"},
		{"let f=fun g x->g(g x)in f(fun y->y*2)3", api.OK, 0, "f:((int->int),int->int) / g:(int->int) / x:int / y:int"},
		{"let(a,b)=(array 2(1,true),())in let(c,d)=a.(0)in c", api.OK, 0, "a:(int*bool) array / b:unit / c:int / d:bool"},
		{"let id=fun x->x in 1", api.OK, 0, "id:(int->int) / x:int"},
		{"let x=let y=true in 1 in x", api.OK, 0, "x:int / y:bool"},
		{"let a=(1,1,1,1,1,1)in let b=(a,a,a,a,a,(1,1,1,1))in 1", api.ErrBig, 22, ""},
		{"let a=(1,1,1,1,1,1)in let b=(a,a,a,a,a,(1,1,1))in 1", api.OK, 0,
			"a:(int*int*int*int*int*int) / b:((int*int*int*int*int*int)*(int*int*int*int*int*int)*(int*int*int*int*int*int)*(int*int*int*int*int*int)*(int*int*int*int*int*int)*(int*int*int))"},
		{"let rec f a b=a=b in let f=f in let rec a f=f a in 1", api.ErrType, 44, ""},
	})
}

// Each kind of part: its own type, and each of its demands.
func TestInferParts(t *testing.T) {
	checkInferred(t, []inferred{
		{"let a=1 in let b=read in let c=true in let d=false in let e=()in 1", api.OK, 0, "a:int / b:int / c:bool / d:bool / e:unit"},
		{"let a=-1 in let b=not true in 1", api.OK, 0, "a:int / b:bool"},
		{"-true", api.ErrType, 1, ""},
		{"let a=not()in 1", api.ErrType, 9, ""},
		{"let a=1+1 in let b=1-1 in let c=1*1 in let d=1/1 in let e=1%1 in 1", api.OK, 0, "a:int / b:int / c:int / d:int / e:int"},
		{"true+1", api.ErrType, 0, ""},
		{"1-true", api.ErrType, 2, ""},
		{"true*1", api.ErrType, 0, ""},
		{"1/true", api.ErrType, 2, ""},
		{"1%(1,1)", api.ErrType, 2, ""},
		{"let a=1=1 in let b=1<>1 in let c=1<1 in let d=1<=1 in let e=1>1 in let f=1>=1 in 1", api.OK, 0,
			"a:bool / b:bool / c:bool / d:bool / e:bool / f:bool"},
		{"let a=()<>1 in 1", api.ErrType, 6, ""},
		{"let a=1>=()in 1", api.ErrType, 9, ""},
		{"let a=print 1;true in 1", api.OK, 0, "a:bool"},
		{"true;1", api.ErrType, 0, ""},
		{"let a=if true then()else()in 1", api.OK, 0, "a:unit"},
		{"if()then 1 else 1", api.ErrType, 2, ""},
		{"let f=fun a b c d->b;c<d in 1", api.OK, 0, "f:(int,unit,int,int->bool) / a:int / b:unit / c:int / d:int"},
		{"let rec f a b c d=b;c<d in 1", api.OK, 0, "f:(int,unit,int,int->bool) / a:int / b:unit / c:int / d:int"},
		{"let rec f x=f 1 in 1", api.OK, 0, "f:(int->int) / x:int"},
		{"let rec f x=if f()then true else false in 1", api.OK, 0, "f:(unit->bool) / x:unit"},
		{"let rec f x=f x 1 in 1", api.ErrType, 12, ""},
		{"let rec f x=x in f true;1", api.ErrType, 17, ""},
		{"let rec f x=if f x then 1 else 2 in 1", api.ErrType, 12, ""},
		{"let rec f x=1 in f()+f 1", api.ErrType, 21, ""},
		{"let(a,b,c,d,e,f)=(1,true,(),(1,1),array 1 1,fun x->x)in 1", api.OK, 0,
			"a:int / b:bool / c:unit / d:(int*int) / e:int array / f:(int->int) / x:int"},
		{"let f=fun t->let(a,b)=t in a+b in 1", api.OK, 0, "f:((int*int)->int) / t:(int*int) / a:int / b:int"},
		{"let(a,b)=1 in 1", api.ErrType, 9, ""},
		{"let(a,b,c)=(1,2)in 1", api.ErrType, 11, ""},
		{"let f=fun t->let(a,b)=t in let(c,d,e)=t in 1 in 1", api.ErrType, 38, ""},
		{"let f=fun g->g 1();g in 1", api.OK, 0, "f:((int,unit->unit)->(int,unit->unit)) / g:(int,unit->unit)"},
		{"1 2", api.ErrType, 0, ""},
		{"(fun x->x)1 1", api.ErrType, 1, ""},
		{"(fun x y->1)1", api.ErrType, 1, ""},
		{"(fun x y->x+y)1 true", api.ErrType, 1, ""},
		{"(fun x->fun y->y)1 2", api.ErrType, 1, ""},
		{"((fun x->fun y->y)1)2", api.OK, 0, "x:int / y:int"},
		{"let t=((1,true),())in 1", api.OK, 0, "t:((int*bool)*unit)"},
		{"let f=fun a i->a.(i)in f(array 1 true)2;1", api.ErrType, 23, ""},
		{"let f=fun a i->a.(i)in if f(array 1 true)2 then 1 else 2", api.OK, 0, "f:(bool array,int->bool) / a:bool array / i:int"},
		{"1.(0)", api.ErrType, 0, ""},
		{"(array 1 1).(())", api.ErrType, 13, ""},
		{"let f=fun a i v->put a i v in f(array 1())1();1", api.OK, 0, "f:(unit array,int,unit->unit) / a:unit array / i:int / v:unit"},
		{"put 1 1 1;1", api.ErrType, 4, ""},
		{"put(array 1 1)()1;1", api.ErrType, 14, ""},
		{"put(array 1 1)1();1", api.ErrType, 15, ""},
		{"put(array 1 1)1 1", api.ErrType, 0, ""},
		{"let a=array 1(array 1())in 1", api.OK, 0, "a:unit array array"},
		{"let a=array()1 in 1", api.ErrType, 11, ""},
		{"let f=fun a->len a in f(array 1 true)", api.OK, 0, "f:(bool array->int) / a:bool array"},
		{"len(1,2)", api.ErrType, 3, ""},
		{"let f=fun a->print a in f 1;2", api.OK, 0, "f:(int->unit) / a:int"},
		{"print()", api.ErrType, 5, ""},
		{"print 1", api.ErrType, 0, ""},
		{"print 1;print 2", api.ErrType, 7, ""},
		{"let x=1 in true", api.ErrType, 0, ""},
		{"if true then()else()", api.ErrType, 0, ""},
		{"(array 1 true).(0)", api.ErrType, 14, ""},
	})
}

// The order of the demands: the first one that cannot be met is told, and an unbound name where it stands.
func TestInferOrder(t *testing.T) {
	checkInferred(t, []inferred{
		{"true+x", api.ErrType, 0, ""},
		{"x+true", api.ErrUnbound, 0, ""},
		{"1+x+true", api.ErrUnbound, 2, ""},
		{"()+(true+1)", api.ErrType, 0, ""},
		{"-(true+())", api.ErrType, 2, ""},
		{"1;x", api.ErrType, 0, ""},
		{"x;1", api.ErrUnbound, 0, ""},
		{"true<x", api.ErrType, 0, ""},
		{"if 1 then x else y", api.ErrType, 3, ""},
		{"if true then 1 else(x,())", api.ErrUnbound, 20, ""},
		{"if true then true else 1;x", api.ErrType, 23, ""},
		{"if true then()else if 1 then()else()", api.ErrType, 22, ""},
		{"let(a,b)=1 in x", api.ErrType, 9, ""},
		{"let x=1+true in y", api.ErrType, 8, ""},
		{"let rec f x=f in y", api.ErrType, 12, ""},
		{"let rec f x=y f in 1", api.ErrUnbound, 12, ""},
		{"1 x", api.ErrUnbound, 2, ""},
		{"x(1+true)", api.ErrUnbound, 0, ""},
		{"1(1+true)", api.ErrType, 4, ""},
		{"(1+true)x", api.ErrType, 3, ""},
		{"(1,x)+1", api.ErrUnbound, 3, ""},
		{"1.(x)", api.ErrType, 0, ""},
		{"(array 1 1).(true+x)", api.ErrType, 13, ""},
		{"put 1 x y", api.ErrType, 4, ""},
		{"put(array 1 1)true x", api.ErrType, 14, ""},
		{"put(array 1 1)x()", api.ErrUnbound, 14, ""},
		{"array true x", api.ErrType, 6, ""},
		{"array x true+1", api.ErrUnbound, 6, ""},
		{"len x", api.ErrUnbound, 4, ""},
		{"print x", api.ErrUnbound, 6, ""},
		{"fun x->y", api.ErrUnbound, 7, ""},
		{"let f=fun x->x+1;x in 1", api.ErrType, 14, ""},
		{"let f=fun x->x;x+1 in 1", api.ErrType, 15, ""},
	})
}

// What is in sight where, and the order in which names are told.
func TestInferSight(t *testing.T) {
	checkInferred(t, []inferred{
		{"let x=1 in let x=true in if x then 1 else 2", api.OK, 0, "x:int / x:bool"},
		{"let x=true in let x=if x then()else()in x;1", api.OK, 0, "x:bool / x:unit"},
		{"let x=1 in(let x=true in());x", api.OK, 0, "x:int / x:bool"},
		{"(let x=1 in x)+x", api.ErrUnbound, 15, ""},
		{"(fun x->x)x", api.ErrUnbound, 10, ""},
		{"let(x,y)=(1,x)in 1", api.ErrUnbound, 12, ""},
		{"let(x,y)=(1,2)in x+y", api.OK, 0, "x:int / y:int"},
		{"let f=fun x->f x in 1", api.ErrUnbound, 13, ""},
		{"let rec f x=x in f f", api.ErrType, 17, ""},
		{"let x=()in let rec f x=x+1 in x;f 1", api.OK, 0, "x:unit / f:(int->int) / x:int"},
		{"let f=()in let rec f x=f 1 in f 2", api.OK, 0, "f:unit / f:(int->int) / x:int"},
		{"if true then let x=1 in x else x", api.ErrUnbound, 31, ""},
		// a name twice in one binding: the last is the innermost, and a parameter lies within its function
		{"let f=fun x x->not x in if f()true then 1 else 2", api.OK, 0, "f:(unit,bool->bool) / x:unit / x:bool"},
		{"let rec f f=not f in if f true then 1 else 2", api.OK, 0, "f:(bool->bool) / f:bool"},
		{"let(x,x)=(1,true)in if x then 1 else 2", api.OK, 0, "x:int / x:bool"},
		{"let(x,x)=(true,1)in if x then 1 else 2", api.ErrType, 23, ""},
		// a binding ahead of its parts, its parts from the left to the right
		{"let a=(let b=1 in b)+(let c=2 in c)in let d=fun e->e;1 in a", api.OK, 0, "a:int / b:int / c:int / d:(unit->int) / e:unit"},
		{"let rec f a=let b=a in b in let c=1 in c", api.OK, 0, "f:(int->int) / a:int / b:int / c:int"},
		{"let(a,b)=let c=1 in(c,c)in let d=a in d", api.OK, 0, "a:int / b:int / c:int / d:int"},
		{"(fun a->fun b->1)(let c=1 in c);1", api.ErrType, 1, ""},
		{"((fun a->fun b->1)(let c=1 in c))()", api.OK, 0, "a:int / b:unit / c:int"},
		{"if let a=true in a then let b=1 in b else let c=2 in c", api.OK, 0, "a:bool / b:int / c:int"},
		{"put(let a=array 1 1 in a)(let b=0 in b)(let c=1 in c);let _0=1 in _0", api.OK, 0, "a:int array / b:int / c:int / _0:int"},
	})
}

// What is left open is int, and one name has one type.
func TestInferOpen(t *testing.T) {
	checkInferred(t, []inferred{
		{"let f=fun x y->y in 1", api.OK, 0, "f:(int,int->int) / x:int / y:int"},
		{"let f=fun x->f2 in 1", api.ErrUnbound, 13, ""},
		{"let f=fun g x->g x in 1", api.OK, 0, "f:((int->int),int->int) / g:(int->int) / x:int"},
		{"let f=fun a->len a in 1", api.OK, 0, "f:(int array->int) / a:int array"},
		{"let rec f x=f x in f()", api.OK, 0, "f:(unit->int) / x:unit"},
		{"let rec f x=f x in f();1", api.OK, 0, "f:(unit->unit) / x:unit"},
		{"let rec f x=f x in 1", api.OK, 0, "f:(int->int) / x:int"},
		{"let id=fun x->x in id 1;id()", api.ErrType, 19, ""},
		{"let id=fun x->x in id();id 1", api.ErrType, 24, ""},
		{"let id=fun x->x in id id 1", api.ErrType, 19, ""},
		{"let f=fun x y->if true then x else y in f 1()", api.ErrType, 40, ""},
		{"let f=fun x->let y=x in x;y in f()", api.ErrType, 0, ""},
		{"let f=fun x->let y=x in x;y in f();1", api.OK, 0, "f:(unit->unit) / x:unit / y:unit"},
		{"let a=array 1(fun x->x)in put a 0(fun y->not y);1", api.OK, 0, "a:(bool->bool) array / x:bool / y:bool"},
	})
}

// No type may be a part of itself.
func TestInferEndless(t *testing.T) {
	checkInferred(t, []inferred{
		{"let f=fun x->x x in 1", api.ErrType, 13, ""},
		{"let f=fun x y->y x;x y in 1", api.ErrType, 19, ""},
		{"let f=fun x->x.(x.(0))in 1", api.OK, 0, "f:(int array->int) / x:int array"},
		{"let f=fun x->put x 0 x in 1", api.ErrType, 21, ""},
		{"let f=fun x->if true then x else(x,x)in 1", api.ErrType, 32, ""},
		{"let f=fun x->if true then(x,1)else x in 1", api.ErrType, 35, ""},
		{"let f=fun x y->if true then(x,y)else(y,array 1 x)in 1", api.ErrType, 36, ""},
		{"let f=fun x->let(a,b)=x in if true then a else x in 1", api.ErrType, 47, ""},
		{"let rec f x=f(x,x)in 1", api.ErrType, 12, ""},
		{"let rec f x=fun y->f x in 1", api.ErrType, 12, ""},
		{"let rec f x=(f x,1)in 1", api.ErrType, 12, ""},
		{"let rec f x=f in f 1", api.ErrType, 12, ""},
		{"let f=fun x->if true then x else x in 1", api.OK, 0, "f:(int->int) / x:int"},
		{"let f=fun x y->if true then(x,y)else(y,x)in 1", api.OK, 0, "f:(int,int->(int*int)) / x:int / y:int"},
	})
}

func TestInferBig(t *testing.T) {
	six := "(1,1,1,1,1,1)" // seven parts
	members := "a,a,a,a,a"
	checkInferred(t, []inferred{
		// functions, arrays and what is open are parts like any other
		{"let a=" + six + "in let f=fun x y->(" + members + ",x)in 1", api.OK, 0,
			"a:(int*int*int*int*int*int) / f:(int,int->((int*int*int*int*int*int)*(int*int*int*int*int*int)*(int*int*int*int*int*int)*" +
				"(int*int*int*int*int*int)*(int*int*int*int*int*int)*int)) / x:int / y:int"},
		{"let a=" + six + "in let f=fun x->(" + members + ",(1,x))in 1", api.ErrBig, 22, ""},
		{"let a=" + six + "in let f=fun x y z->(" + members + ",x)in 1", api.ErrBig, 22, ""},
		{"let a=" + six + "in let b=array 1(" + members + ",())in len b", api.OK, 0,
			"a:(int*int*int*int*int*int) / b:((int*int*int*int*int*int)*(int*int*int*int*int*int)*(int*int*int*int*int*int)*" +
				"(int*int*int*int*int*int)*(int*int*int*int*int*int)*unit) array"},
		{"let a=" + six + "in let b=array 1(array 1(array 1(array 1(" + members + ",()))))in len b", api.ErrBig, 22, ""},
		{"let a=" + six + "in let b=array 1(array 1(array 1(" + members + ",(true))))in len b", api.OK, 0,
			"a:(int*int*int*int*int*int) / b:((int*int*int*int*int*int)*(int*int*int*int*int*int)*(int*int*int*int*int*int)*" +
				"(int*int*int*int*int*int)*(int*int*int*int*int*int)*bool) array array array"},
		// the first name as they are told, at the let or fun that binds it
		{"let a=" + six + "in let b=let c=(a,a,a,a,a,a)in c in 1", api.ErrBig, 22, ""},
		{"let a=" + six + "in let b=(let c=(a,a,a,a,a,a)in 1)in b", api.ErrBig, 29, ""},
		{"let a=" + six + "in let(x,y)=(1,(a,a,a,a,a,a))in x", api.ErrBig, 22, ""},
		{"let a=" + six + "in let rec f x=1 in f(a,a,a,a,a,a)", api.ErrBig, 22, ""},
		{"let a=" + six + "in(fun x->1)(a,a,a,a,a,a)", api.ErrBig, 22, ""},
		{"let a=" + six + "in(fun x->fun y->1)1(a,a,a,a,a,a)", api.ErrType, 22, ""},
		{"let a=" + six + "in((fun x->fun y->1)1)(a,a,a,a,a,a)", api.ErrBig, 30, ""},
		// a demand that is not met comes ahead; a type that no name has counts for nothing
		{"let a=" + six + "in let b=(a,a,a,a,a,a)in true", api.ErrType, 0, ""},
		{"let a=" + six + "in let b=(a,a,a,a,a,a)in x", api.ErrUnbound, 44, ""},
		{"let a=" + six + "in len(array 1(a,a,a,a,a,a))", api.OK, 0, "a:(int*int*int*int*int*int)"},
	})
}

// Types that nobody could write out: each is six of the one ahead.
func TestInferHuge(t *testing.T) {
	grown := func(name string, count int) string {
		text := "let " + name + "=1 in "
		for i := 0; i < count; i++ {
			text += "let " + name + "=(" + strings.Repeat(name+",", 5) + name + ")in "
		}
		return text
	}
	all := grown("a", 17)
	both := grown("a", 7) + grown("b", 7)
	checkInferred(t, []inferred{
		{all + "1", api.ErrBig, 33, ""},
		{"let x=" + grown("a", 16) + "a in 1", api.ErrBig, 0, ""},
		{"let f=fun x->" + grown("a", 16) + "a in 1", api.ErrBig, 0, ""},
		{all + "a", api.ErrType, 0, ""},
		{all + "a.(0)", api.ErrType, len(all), ""},
		{both + "let f=if true then a else b in 1", api.ErrBig, 33, ""},
		{both + "let f=if true then a else(a,b)in 1", api.ErrType, len(both) + 25, ""},
		{both + "let f=fun x->if x then a else b in f 1", api.ErrType, len(both) + 35, ""},
	})
}

// Whatever the bytes are: an answer comes, with a place in the text, and the errors of P3 and P4 are those of Show.
func TestInferAnyText(t *testing.T) {
	r := rand.New(rand.NewSource(7))
	c := new(front.Compiler)
	for n := 0; n < 4000; n++ {
		list := anyText(r)
		for i := r.Intn(2); i > 0 && len(list) > 0; i-- {
			list = changed(r, list)
		}
		src := strings.Join(list, " ")
		text, err, at := c.Infer(src)
		_, shown, place := c.Show(src)
		if shown != api.OK && (err != shown || at != place) {
			t.Errorf("P7: Infer(%q) = %d, %d, but Show %d, %d", src, err, at, shown, place)
		}
		if err != api.OK && text != "" || at < 0 || at > len(src) || err == api.OK && at != 0 {
			t.Errorf("P1: Infer(%q) = %q, %d, %d", src, text, err, at)
		}
	}
}
