package parts

import (
	"fmt"
	"strings"
	"testing"

	"slim/api"
	"slim/words"
)

func parse(t *testing.T, src string) (Tree, api.Errno, int) {
	list, err, _ := words.Split(src)
	if err != api.OK {
		t.Fatalf("Split(%q) = %d", src, err)
	}
	return Parse(list, api.MaxNest)
}

var kinds = [...]string{"none", "num", "true", "false", "read", "name", "unit", "tuple", "let", "letrec", "lettuple", "if", "fun",
	"neg", "not", "prod", "sum", "cmp", "seq", "call", "index", "print", "len", "array", "put"}

// told writes a part down: kind, sign, place, number, names, and its parts in brackets.
func told(tree Tree, number int) string {
	part := tree.Part(number)
	out := kinds[part.Kind]
	if part.Kind == Prod || part.Kind == Sum || part.Kind == Cmp {
		out = words.Text(part.Word)
	}
	if part.Kind == Num {
		out = fmt.Sprintf("#%d", part.Num)
	}
	out = fmt.Sprintf("%s@%d", out, part.At)
	if len(part.Names) > 0 {
		out += "'" + strings.Join(part.Names, "'")
	}
	if len(part.Kids) == 0 {
		return out
	}
	kids := []string{}
	for i := range part.Kids {
		kids = append(kids, told(tree, tree.Kid(number, i)))
	}
	return out + "(" + strings.Join(kids, " ") + ")"
}

func TestPlaces(t *testing.T) {
	for _, c := range [][2]string{
		{" 1", "#1@1"},
		{"(( x ))", "name@3'x"},
		{"(true,false , read)", "tuple@0(true@1 false@6 read@14)"},
		{" ( ( ) )", "unit@3"},
		{" ((1,2))", "tuple@2(#1@3 #2@5)"},
		{" let x=1 in x", "let@1'x(#1@7 name@12'x)"},
		{"1;let rec f x y=x in 2", "seq@1(#1@0 letrec@2'f'x'y(name@16'x #2@21))"},
		{"let ( a,b ) = c in d", "lettuple@0'a'b(name@14'c name@19'd)"},
		{"(if a then b else c)", "if@1(name@4'a name@11'b name@18'c)"},
		{" fun x y->y", "fun@1'x'y(name@10'y)"},
		{"- - 1", "neg@0(neg@2(#1@4))"},
		{"not(not a)", "not@0(not@4(name@8'a))"},
		{"-not a", "neg@0(not@1(name@5'a))"},
		{"1 + 2 - 3", "-@6(+@2(#1@0 #2@4) #3@8)"},
		{"(1)*(2)/3%4", "%@9(/@7(*@3(#1@1 #2@5) #3@8) #4@10)"},
		{"1*2+3*4", "+@3(*@1(#1@0 #2@2) *@5(#3@4 #4@6))"},
		{"(1+2)*3", "*@5(+@2(#1@1 #2@3) #3@6)"},
		{"1-(2-3)", "-@1(#1@0 -@4(#2@3 #3@5))"},
		{"1 = 2", "=@2(#1@0 #2@4)"},
		{"1<>2+3", "<>@1(#1@0 +@4(#2@3 #3@5))"},
		{"-1<=2", "<=@2(neg@0(#1@1) #2@4)"},
		{"1>=2;3", "seq@4(>=@1(#1@0 #2@3) #3@5)"},
		{"1<2", "<@1(#1@0 #2@2)"},
		{"1>2", ">@1(#1@0 #2@2)"},
		{"a;b ; c", "seq@1(name@0'a seq@4(name@2'b name@6'c))"},
		{"(a;b) ; c", "seq@6(seq@2(name@1'a name@3'b) name@8'c)"},
		{"if a then b else c;d", "if@0(name@3'a name@10'b seq@18(name@17'c name@19'd))"},
		{"let x=1;2 in 3;4", "let@0'x(seq@7(#1@6 #2@8) seq@14(#3@13 #4@15))"},
		{"fun x->1;2", "fun@0'x(seq@8(#1@7 #2@9))"},
		{"a .( b )", "index@2(name@0'a name@5'b)"},
		{"a.(b).(c)", "index@5(index@1(name@0'a name@3'b) name@7'c)"},
		{" f x", "call@1(name@1'f name@3'x)"},
		{"f a b c d", "call@0(name@0'f name@2'a name@4'b name@6'c name@8'd)"},
		{"(f x) y", "call@1(call@1(name@1'f name@3'x) name@6'y)"},
		{"f (g y)", "call@0(name@0'f call@3(name@3'g name@5'y))"},
		{"( fun x->x) 1", "call@2(fun@2'x(name@9'x) #1@12)"},
		{"a.(0) x", "call@1(index@1(name@0'a #0@3) name@6'x)"},
		{"f a.(0)", "call@0(name@0'f index@3(name@2'a #0@5))"},
		{"(1+2) 3", "call@2(+@2(#1@1 #2@3) #3@6)"},
		{"() 1", "call@0(unit@0 #1@3)"},
		{"(1,2) 3", "call@0(tuple@0(#1@1 #2@3) #3@6)"},
		{"(a;b) c", "call@2(seq@2(name@1'a name@3'b) name@6'c)"},
		{"- f x", "neg@0(call@2(name@2'f name@4'x))"},
		{" print a", "print@1(name@7'a)"},
		{"(len a)", "len@1(name@5'a)"},
		{"array 1 a.(2)", "array@0(#1@6 index@9(name@8'a #2@11))"},
		{"1;put a 1 2", "seq@1(#1@0 put@2(name@6'a #1@8 #2@10))"},
		{"print(*x*) 1", "print@0(#1@11)"},
	} {
		tree, err, at := parse(t, c[0])
		if told(tree, tree.Root()) != c[1] || err != api.OK || at != 0 {
			t.Errorf("P4, P5: %q is %s, %d, %d, want %s", c[0], told(tree, tree.Root()), err, at, c[1])
		}
	}
}

func TestErrors(t *testing.T) {
	twelve := strings.Repeat("(", 12)
	for _, c := range []struct {
		src string
		err api.Errno
		at  int
	}{
		{"", api.ErrSyntax, 0},
		{" (*a*) ", api.ErrSyntax, 7},
		{"1+ ", api.ErrSyntax, 3},
		{"1 2)", api.ErrSyntax, 3},
		{")", api.ErrSyntax, 0},
		{"in", api.ErrSyntax, 0},
		{"let in", api.ErrSyntax, 4},
		{"let 1=1 in 1", api.ErrSyntax, 4},
		{"let x y=1 in 1", api.ErrSyntax, 6},
		{"let x<=1 in 1", api.ErrSyntax, 5},
		{"let x=1;", api.ErrSyntax, 8},
		{"let x=1 x", api.ErrSyntax, 9},
		{"let rec 1", api.ErrSyntax, 8},
		{"let rec(f,x)=1 in 2", api.ErrSyntax, 7},
		{"let rec f=1 in 2", api.ErrSyntax, 9},
		{"let rec f a b c d=1 in 2", api.OK, 0},
		{"let rec f a b c d e=1 in 2", api.ErrSyntax, 18},
		{"let()=1 in 2", api.ErrSyntax, 4},
		{"let(x)=1 in 2", api.ErrSyntax, 5},
		{"let(x,)=1 in 2", api.ErrSyntax, 6},
		{"let(x,y=1 in 2", api.ErrSyntax, 7},
		{"let(x,(y,z))=1 in 2", api.ErrSyntax, 6},
		{"let(a,b,c,d,e,f)=1 in 2", api.OK, 0},
		{"let(a,b,c,d,e,f,g)=1 in 2", api.ErrSyntax, 15},
		{"if 1 2 else", api.ErrSyntax, 7},
		{"if 1 then 2 in", api.ErrSyntax, 12},
		{"fun->1", api.ErrSyntax, 3},
		{"fun(x)->1", api.ErrSyntax, 3},
		{"fun a b c d->1", api.OK, 0},
		{"fun a b c d e->1", api.ErrSyntax, 12},
		{"fun x=1", api.ErrSyntax, 5},
		{"1<2<3", api.ErrSyntax, 3},
		{"1;2=3=4", api.ErrSyntax, 5},
		{"1;;2", api.ErrSyntax, 2},
		{"1+fun x->x", api.ErrSyntax, 2},
		{"1+let x=1 in x", api.ErrSyntax, 2},
		{"not if 1 then 2 else 3", api.ErrSyntax, 4},
		{"1*+2", api.ErrSyntax, 2},
		{"1--2", api.OK, 0},
		{"print", api.ErrSyntax, 5},
		{"print 1 2", api.ErrSyntax, 8},
		{"print -1", api.ErrSyntax, 6},
		{"print print 1", api.ErrSyntax, 6},
		{"f print 1", api.ErrSyntax, 2},
		{"len", api.ErrSyntax, 3},
		{"len 1 2", api.ErrSyntax, 6},
		{"array 1;", api.ErrSyntax, 7},
		{"array 1 2 3", api.ErrSyntax, 10},
		{"put 1 2+", api.ErrSyntax, 7},
		{"put 1 2 3 4", api.ErrSyntax, 10},
		{"f 1 2 3 4", api.OK, 0},
		{"f 1 2 3 4 5", api.ErrSyntax, 10},
		{"f 1 2 3 4(5)", api.ErrSyntax, 9},
		{"f 1 2 3 4.(5)", api.OK, 0},
		{"a.(1", api.ErrSyntax, 4},
		{"a.(1,2)", api.ErrSyntax, 4},
		{"a.()", api.ErrSyntax, 3},
		{".(1)", api.ErrSyntax, 0},
		{"(1,2,3,4,5,6)", api.OK, 0},
		{"(1,2,3,4,5,6,7)", api.ErrSyntax, 12},
		{"(1,)", api.ErrSyntax, 3},
		{"(,1)", api.ErrSyntax, 1},
		{"1,2", api.ErrSyntax, 1},
		{"(1;2", api.ErrSyntax, 4},
		{"1(*(*)*)*)*)", api.ErrSyntax, 11},
		{"((((((((((((1))))))))))))", api.OK, 0},
		{"(((((((((((((1", api.ErrNest, 12},
		{twelve + ")+()", api.ErrSyntax, 16},
		{twelve + "1)+(1", api.ErrSyntax, 17},
		{twelve + "1+(1", api.ErrNest, 14},
		{twelve + "()", api.ErrNest, 12},
		{twelve + "a.(1", api.ErrNest, 13},
		{twelve + "f 1(1", api.ErrNest, 15},
		{twelve + "f 1 1 1 1(1", api.ErrSyntax, 21},
		{twelve + "+((", api.ErrSyntax, 12},
		{twelve + ".(", api.ErrSyntax, 12},
		{twelve + "fun(", api.ErrSyntax, 15},
		{twelve + "let(x,y)=1 in 2", api.ErrNest, 15},
		{"let(x,y)=" + twelve + "1", api.ErrSyntax, 22},
		{"a.(" + twelve + "1", api.ErrNest, 14},
		{strings.Repeat("()+", 100) + "()", api.OK, 0},
		{strings.Repeat("-", 400), api.ErrSyntax, 400},
		{strings.Repeat("-", 399) + "1", api.OK, 0},
		{strings.Repeat("1;", 199) + "1", api.OK, 0},
	} {
		tree, err, at := parse(t, c.src)
		if err != c.err || at != c.at {
			t.Errorf("P4: %q is %d, %d, want %d at %d", c.src, err, at, c.err, c.at)
		}
		if (len(tree.Parts) == 0) != (err != api.OK) {
			t.Errorf("P4: %q has %d parts, %d", c.src, len(tree.Parts), err)
		}
	}
}

// Words that do not come from Split, and numbers of parts that there are not.
func TestOddArguments(t *testing.T) {
	for _, list := range [][]words.Word{nil, {}, {{Kind: words.Open}}, {{Kind: -1}}, {{Kind: 999}}} {
		_, err, _ := Parse(list, api.MaxNest)
		if err != api.ErrSyntax {
			t.Errorf("Parse(%v) = %d", list, err)
		}
	}
	tree := Tree{Parts: []Part{{Kind: Neg, Kids: []int{0}}}}
	for _, number := range []int{-1, 0, 1} {
		for _, i := range []int{-1, 0, 1} {
			if tree.Kid(number, i) != -1 {
				t.Errorf("Kid(%d, %d) = %d", number, i, tree.Kid(number, i))
			}
		}
	}
	if tree.Part(-1).Kind != None || tree.Part(1).Kind != None {
		t.Errorf("Part tells a part that there is not")
	}
}
