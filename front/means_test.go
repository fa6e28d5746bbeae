package front_test

import (
	"reflect"
	"strings"
	"testing"

	"slim/api"
)

// ended: how a text ends: with a number, or at a place; what it prints; how much it reads.
type ended struct {
	err  api.Errno
	n    int // the number or the place
	out  []int
	read int
}

func (c trial) endsAs(t *testing.T, want ended) {
	t.Helper()
	for _, c := range c.both(t) {
		r := c.started(t, api.MaxHeap, api.MaxDepth).Go(20000)
		got := ended{r.Err, r.Val + r.Pos, r.Out, r.Read}
		if !reflect.DeepEqual(got, want) {
			t.Errorf("P14: %q with %v: %+v, want %+v", c.src, c.in, got, want)
		}
		c.holds(t, api.MaxHeap, api.MaxDepth, 20000)
		c.enough(t)
	}
}

func TestCompileNumbers(t *testing.T) {
	for _, c := range []struct {
		src string
		val int
	}{
		{"7", 7}, {"4611686018427387903", 4611686018427387903}, {"0", 0},
		{"10-3-2", 5}, {"100/5/2", 10}, {"2*3%4*5", 10}, {"1+2*3", 7}, {"(1+2)*3", 9}, {"2-(3-4)", 3},
		{"-7/2", -3}, {"7/(-2)", -3}, {"-7/(-2)", 3}, {"-7%2", -1}, {"7%(-2)", 1}, {"-7%(-2)", -1}, {"6%3", 0},
		{"4611686018427387903+1", -4611686018427387904}, {"-4611686018427387903-2", 4611686018427387903},
		{"4611686018427387903*2", -2}, {"-(-4611686018427387903-1)", -4611686018427387904},
		{"(-4611686018427387903-1)/(-1)", -4611686018427387904}, {"(-4611686018427387903-1)%(-1)", 0},
		{"--5", 5}, {"-0", 0},
		{"if 1=1 then 1 else 0", 1}, {"if 1=2 then 1 else 0", 0}, {"if 1<>1 then 1 else 0", 0}, {"if 1<>2 then 1 else 0", 1},
		{"if 1<2 then 1 else 0", 1}, {"if 2<2 then 1 else 0", 0}, {"if 3<2 then 1 else 0", 0},
		{"if 1<=2 then 1 else 0", 1}, {"if 2<=2 then 1 else 0", 1}, {"if 3<=2 then 1 else 0", 0},
		{"if 1>2 then 1 else 0", 0}, {"if 2>2 then 1 else 0", 0}, {"if 3>2 then 1 else 0", 1},
		{"if 1>=2 then 1 else 0", 0}, {"if 2>=2 then 1 else 0", 1}, {"if 3>=2 then 1 else 0", 1},
		{"if true then 1 else 0", 1}, {"if false then 1 else 0", 0}, {"if not true then 1 else 0", 0}, {"if not not(1<2)then 1 else 0", 1},
		{"let x=5 in x", 5}, {"let x=1 in let y=x+1 in x*10+y", 12}, {"let x=1 in let x=x+1 in let x=x*3 in x", 6},
		{"let x=1 in(let x=2 in x)*10+x", 21}, {"let x=1 in let f=fun y->x+y in let x=10 in f x", 11},
		{"let rec f f=f in f 5", 5}, {"(fun x x->x)1 2", 2}, {"let(x,x)=(1,2)in x", 2}, {"let x=1 in let y=2 in 3", 3},
		{"(fun a b c d->a*1000+b*100+c*10+d)1 2 3 4", 1234}, {"let rec f a b c d=a*1000+b*100+c*10+d in 1+f 1 2 3 4", 1235},
		{"let(a,b,c,d,e,f)=(1,2,3,4,5,6)in((((a*10+b)*10+c)*10+d)*10+e)*10+f", 123456},
		{"let(a,b)=((1,2),3)in let(c,d)=a in b*100+c*10+d", 312}, {"let(a,b)=(let x=3 in(x,x+1))in a*b", 12},
		{"let b=1<2 in if b then 1 else 0", 1}, {"if(array 1 true).(0)then 1 else 2", 1}, {"(fun b->if b then 3 else 4)(2<1)", 4},
		{"let u=()in u;2", 2}, {"(fun u->3)()", 3}, {"let a=array 2()in a.(0);len a", 2},
		{"len(array 0 5)", 0}, {"len(array 32 5)", 32}, {"(array 3 7).(2)", 7}, {"(array 32 9).(31)", 9},
		{"let a=array 1 0 in let b=a in put b 0 5;a.(0)", 5}, {"let a=array 2(array 1 0)in put a.(0)0 7;a.(1).(0)", 7},
		{"let a=array 3 0 in put a 0 7;put a 1(a.(0)*2);a.(0)*100+a.(1)*10+a.(2)", 840}, {"let a=array 2 1 in(fun b->put b 0 4)a;a.(0)", 4},
		{"let t=(array 1 1,2)in let(a,b)=t in put a 0 8;let(c,d)=t in c.(0)", 8},
		{"let(f,g)=((fun x->x+1),(fun x->x*2))in f(g 5)", 11}, {"(array 2(fun x->x+1)).(1)41", 42},
		{"let f=fun x->fun y->x*10+y in(f 1)2", 12}, {"let f=fun g x->g(g x)in f(fun y->y*2)3", 12},
		{"(fun x->x)(if true then 1 else 2)", 1}, {"1+(if false then 1 else let x=5 in x*x)", 26}, {"(if true then fun x->x else fun x->-x)3", 3},
		{"let rec f n=let g=fun m->f m in if n<1 then 7 else g(n-1)in f 3", 7},
		{"let rec f n=if n=0 then 0 else n+f(n-1)in f 30", 465}, {"let rec fib n=if n<2 then n else fib(n-1)+fib(n-2)in fib 10", 55},
		{"let rec a x=if x=0 then 0 else(let rec b y=if y=0 then a(x-1)else b(y-1)in b x)in a 6", 0},
		{"let a=array 1(fun x->x)in put a 0(fun x->if x=0 then 1 else x*(a.(0))(x-1));a.(0)9", 362880},
		{"let a=1 in let b=2 in let c=3 in(fun x->(fun y->(fun z->a*100000+x*10000+b*1000+y*100+c*10+z)6)5)4", 142536},
		{"let a=1 in(fun x->let b=x in(fun y->a+b+x+y)(a+b))10", 32},
		{"let rec comp f g=fun x->f(g x)in let rec pow f n=if n=0 then(fun x->x)else comp f(pow f(n-1))in(pow(fun x->x*2+1)9)1", 1023},
		{"let x=1 in if x<2 then(let y=x in 5)else x", 5}, {"let x=3 in(if x<2 then 1 else 2)+x", 5}, {"let x=3 in let y=4 in if true then x else y", 3},
	} {
		tried(t, c.src, nil, 20000).endsAs(t, ended{n: c.val})
	}
}

func TestCompileOrder(t *testing.T) {
	for _, c := range []struct {
		src  string
		in   []int
		want ended
	}{
		{"(print 1;1)+(print 2;2)*(print 3;3)", nil, ended{n: 7, out: []int{1, 2, 3}}},
		{"if(print 1;1)>(print 2;2)then 1 else 0", nil, ended{out: []int{1, 2}}},
		{"if(print 1;1)>=(print 2;1)then 1 else 0", nil, ended{n: 1, out: []int{1, 2}}},
		{"(print 1;fun x y->x-y)(print 2;5)(print 3;3)", nil, ended{n: 2, out: []int{1, 2, 3}}},
		{"1+(print 1;fun x y->x-y)(print 2;5)3", nil, ended{n: 3, out: []int{1, 2}}},
		{"let(a,b)=((print 1;1),(print 2;2))in a*10+b", nil, ended{n: 12, out: []int{1, 2}}},
		{"let(a,b,c)=((print 1;1),5,(print 2;2))in a*100+b*10+c", nil, ended{n: 152, out: []int{1, 2}}},
		{"(print 1;array 2 7).(print 2;1)", nil, ended{n: 7, out: []int{1, 2}}},
		{"put(print 1;array 1 0)(print 2;0)(print 3;0);9", nil, ended{n: 9, out: []int{1, 2, 3}}},
		{"len(array(print 1;2)(print 2;0))", nil, ended{n: 2, out: []int{1, 2}}},
		{"if(print 1;1<2)then(print 2;5)else(print 3;6)", nil, ended{n: 5, out: []int{1, 2}}},
		{"if(print 1;2<1)then(print 2;5)else(print 3;6)", nil, ended{n: 6, out: []int{1, 3}}},
		{"let x=(print 1;1)in print 2;x", nil, ended{n: 1, out: []int{1, 2}}},
		{"let u=print 1 in u;u;2", nil, ended{n: 2, out: []int{1}}},
		{"let f=fun x->print x in f 1;f 2;3", nil, ended{n: 3, out: []int{1, 2}}},
		{"let rec f x=print x;7 in 1", nil, ended{n: 1}},
		{"let x=read in x+x+x", []int{4, 5}, ended{n: 12, read: 1}},
		{"read*10+read", []int{4, 2, 9}, ended{n: 42, read: 2}},
		{"let a=array 2 read in a.(0)+a.(1)", []int{4, 5}, ended{n: 8, read: 1}},
		{"read", []int{1 << 62}, ended{n: -1 << 62, read: 1}},
		{"read", []int{-1 << 63}, ended{read: 1}},
		{"read", []int{1<<63 - 1}, ended{n: -1, read: 1}},
		{"let f=if read<1 then(fun x->x+1)else(fun x->x*2)in f 10", []int{0}, ended{n: 11, read: 1}},
		{"let f=if read<1 then(fun x->x+1)else(fun x->x*2)in f 10", []int{1}, ended{n: 20, read: 1}},
		{"let rec f n=if n=0 then 0 else(print n;f(n-1)+(print n;1))in f 2", nil, ended{n: 2, out: []int{2, 1, 1, 2}}},
	} {
		tried(t, c.src, c.in, 20000).endsAs(t, c.want)
	}
}

func TestCompileFaults(t *testing.T) {
	sixteen := strings.Repeat("print 1;", 16)
	ones := []int{1, 1, 1, 1, 1, 1, 1, 1, 1, 1, 1, 1, 1, 1, 1, 1}
	for _, c := range []struct {
		src  string
		in   []int
		want ended
	}{
		{"print read;print(read+1);7/(read-3)", []int{5, 6, 3}, ended{api.RunDiv, 26, []int{5, 7}, 3}},
		{" 1 / 0", nil, ended{api.RunDiv, 3, nil, 0}},
		{"1%0", nil, ended{api.RunDiv, 1, nil, 0}},
		{"1/(1-1)*(print 1;1)", nil, ended{api.RunDiv, 1, nil, 0}},
		{"(print 1;1)/(print 2;0)", nil, ended{api.RunDiv, 11, []int{1, 2}, 0}},
		{"let x=1/0 in print 1;2", nil, ended{api.RunDiv, 7, nil, 0}},
		{"let rec f x=1/0 in 5", nil, ended{n: 5}},
		{"if true then 1 else 1/0", nil, ended{n: 1}},
		{"let x=0/1 in(print 1;x)", nil, ended{out: []int{1}}},
		{"(array 2 0).(2)", nil, ended{api.RunIndex, 11, nil, 0}},
		{"(array 2 0).(-1)", nil, ended{api.RunIndex, 11, nil, 0}},
		{"let a=array 0 1 in a.(0)", nil, ended{api.RunIndex, 20, nil, 0}},
		{"let a=array 1 5 in put a(read)1;2", []int{1}, ended{api.RunIndex, 19, nil, 1}},
		{"put(array 1 0)(print 1;1)(print 2;2);3", nil, ended{api.RunIndex, 0, []int{1, 2}, 0}},
		{"put(array 1 0)(-1)2;3", nil, ended{api.RunIndex, 0, nil, 0}},
		{"len(array(0-1)0)", nil, ended{api.RunSize, 4, nil, 0}},
		{"len(array 33(print 1;2))", nil, ended{api.RunSize, 4, []int{1}, 0}},
		{"read", nil, ended{api.RunInput, 0, nil, 0}},
		{"read+ read", []int{1}, ended{api.RunInput, 6, nil, 1}},
		{sixteen + "7", nil, ended{api.OK, 7, ones, 0}},
		{sixteen + "print 2;7", nil, ended{api.RunOutput, 128, ones, 0}},
		{sixteen + "print read;7", []int{5}, ended{api.RunOutput, 128, ones, 1}},
		{sixteen + "print(1/0);7", nil, ended{api.RunDiv, 135, ones, 0}},
		{"let rec f n=print n;f(n+1)in f 0", nil, ended{api.RunOutput, 12, []int{0, 1, 2, 3, 4, 5, 6, 7, 8, 9, 10, 11, 12, 13, 14, 15}, 0}},
	} {
		tried(t, c.src, c.in, 20000).endsAs(t, c.want)
	}
}

// What P14 tells of the costs, reckoned by hand; and the code in just that room and time.
func TestCompileCosts(t *testing.T) {
	for _, c := range []struct {
		src                 string
		steps, depth, words int
	}{
		{"1", 1, 1, 0},
		{"1+2*3", 5, 1, 0},
		{"if 1<2 then 3 else 4+5", 5, 1, 0},
		{"let x=1 in x", 3, 1, 0},
		{"let(x,y)=(1,2)in x", 7, 1, 3},
		{"let x=(1,(2,3))in 4", 7, 1, 6},
		{"len(array 3(1,2))", 6, 1, 7},
		{"(fun x->x)1", 5, 1, 1},
		{"let rec f x=x in f 1", 6, 1, 1},
		{"1+(fun x->x)1", 7, 2, 1},
		{"let a=1 in let b=2 in(fun x->x)3", 11, 1, 3},
		{"let a=1 in let a=2 in(fun a->a)3", 11, 1, 3},
		{"(fun x->(fun y->y)x)1", 11, 1, 4},
		{"let f=fun x y z->x in f 1 2 3", 11, 1, 1},
		{"let t=(1,2)in let(a,b)=t in let u=(a,b,t)in 5", 14, 1, 7},
		{"let rec f n=if n<1 then 0 else let a=array 9 n in f(n-1)in f 3", 52, 1, 11},
		{"let rec f n=if n<1 then 0 else 1+f(n-1)in f 3", 46, 4, 1},
		{"let rec f n=if n<1 then 0 else let a=array 2 n in f(n-1)+a.(0)in f 3", 64, 4, 10},
		{"let rec f n=if n<1 then 0 else(let x=f(n-1)in x)in f 3", 46, 4, 1},
		{"let rec f n=if n<1 then 0 else(();f(n-1))in f 3", 46, 1, 1},
		{"let x=array 5 1 in let y=len x in let z=array 5 y in 1", 12, 1, 12},
		{"(let x=array 5 1 in 1)+(let x=array 5 1 in 1)", 11, 1, 6},
		{"(let x=array 5 1 in x.(0))+(let x=array 5 1 in x.(0))", 15, 1, 6},
		{"(let(x,y)=(array 3 1,2)in len x+y)+len(array 5 1)", 17, 1, 7},
		{"(let x=array 5 1 in if 1<2 then 1 else x.(0))+len(array 5 1)", 14, 1, 6},
		{"(let x=array 5 1 in if 2<1 then x.(0)else 1)+len(array 5 1)", 14, 1, 6},
		{"(let x=array 5 1 in if 1<2 then()else print x.(0));len(array 5 1)", 14, 1, 6},
		{"(let x=array 5 1 in if 2<1 then print x.(0)else());len(array 5 1)", 14, 1, 6},
		{"(let x=array 5 1 in put x(len x-1)2);len(array 5 1)", 16, 1, 6},
		{"print(let z=1 in let g=(let w=2 in let x=array 5 1 in fun y->x.(0)+w)in g z+z);len(array 5 1)", 30, 2, 10},
		{"(fun a b->b)(array 5 1)(();2)+len(array 5 1)", 16, 2, 7},
		{"len(array 5 1)+(let x=array 5 1 in(fun y->len(array 5 y))1)", 18, 2, 14},
	} {
		m := tried(t, c.src, nil, 20000)
		got := []int{m.meaning.steps, greatest(m.meaning.calls), greatest(m.meaning.reach)}
		if !reflect.DeepEqual(got, []int{c.steps, c.depth, c.words}) {
			t.Errorf("P14: %q costs %v, want %v", c.src, got, c)
		}
		for _, m := range m.both(t) {
			m.enough(t)
			m.holds(t, max(0, 2*c.words-1), c.depth, 8*c.steps)
			m.holds(t, 2*c.words, max(1, c.depth-1), 8*c.steps)
		}
	}
}
