package show

import (
	"testing"

	"slim/api"
	"slim/parts"
	"slim/words"
)

func shown(t *testing.T, src string) string {
	list, err, _ := words.Split(src)
	if err != api.OK {
		t.Fatalf("Split(%q) = %d", src, err)
	}
	tree, err, _ := parts.Parse(list, api.MaxNest)
	if err != api.OK {
		t.Fatalf("Parse(%q) = %d", src, err)
	}
	return Text(tree)
}

func TestText(t *testing.T) {
	for _, c := range [][2]string{
		{" ((1)) ", "1"},
		{"000", "0"},
		{"004611686018427387903", "4611686018427387903"},
		{"( true )", "true"},
		{"(read)", "read"},
		{"(( ))", "()"},
		{"((1),(2+3),((4,5)))", "(1,2+3,(4,5))"},
		{"(1;2,let x=1 in x,fun x->x)", "(1;2,let x=1 in x,fun x->x)"},
		{"let x=(let y=(1)in(y))in(let z=2 in z)", "let x=let y=1 in y in let z=2 in z"},
		{"let rec f a b c d=(1;2)in(3;4)", "let rec f a b c d=1;2 in 3;4"},
		{"let ( a , b , c ) = (1,2,3) in (a)", "let(a,b,c)=(1,2,3)in a"},
		{"let x=(1,2)in(x,x)", "let x=(1,2)in(x,x)"},
		{"if(if a then b else c)then(if d then e else f)else(if g then h else i)",
			"if if a then b else c then if d then e else f else if g then h else i"},
		{"if(not a)then(-1)else(1;2)", "if not a then-1 else 1;2"},
		{"(if a then b else c);d", "(if a then b else c);d"},
		{"a;(if b then c else d)", "a;if b then c else d"},
		{"(fun x->(1));2", "(fun x->1);2"},
		{"1;(fun x->((fun y->2)))", "1;fun x->fun y->2"},
		{"fun x -> (-x)", "fun x->-x"},
		{"(1=2)<>(3<=4)", "(1=2)<>(3<=4)"},
		{"(1+2)>=(3*4)", "1+2>=3*4"},
		{"((1<2));((3>4))", "1<2;3>4"},
		{"1-(2-3)-(4)", "1-(2-3)-4"},
		{"(1+2)-(3*4)", "1+2-3*4"},
		{"(1*2)/(3%4)", "1*2/(3%4)"},
		{"1/(2+3)*(4)", "1/(2+3)*4"},
		{"(-1)-(-2)*(-3)", "-1--2*-3"},
		{"-(-(1*2))", "--(1*2)"},
		{"not(a=b)", "not(a=b)"},
		{"not(-(f x))", "not-f x"},
		{"(-f)x", "(-f)x"},
		{"-(f x)", "-f x"},
		{"f(-1)(not a)", "f(-1)(not a)"},
		{"f(print 1)(len a)(g x)", "f(print 1)(len a)(g x)"},
		{"((f)(a))(b)(c)", "(f a)b c"},
		{"f(a.(1))(2)", "f a.(1)2"},
		{"(f).(((1)))", "f.(1)"},
		{"((f x)).((1;2))", "(f x).(1;2)"},
		{"(1,2).(0)", "(1,2).(0)"},
		{"().(0)", "().(0)"},
		{"(print 1).(0)", "(print 1).(0)"},
		{"(a.(0))(b)", "a.(0)b"},
		{"(-a).(0)", "(-a).(0)"},
		{"-(a.(0))", "-a.(0)"},
		{"print((1,2))", "print(1,2)"},
		{"print(())", "print()"},
		{"array(1+2)(read)", "array(1+2)read"},
		{"array((1))((array 2 3))", "array 1(array 2 3)"},
		{"put(a.(0))(len a)(-1)", "put a.(0)(len a)(-1)"},
		{"(put a 0 1);(print 2)", "put a 0 1;print 2"},
		{"(print 1)+(len a)", "print 1+len a"},
		{"1 2 3 4 5", "1 2 3 4 5"},
		{"1 true a", "1 true a"},
		{"(let x=1 in x)(let y=2 in y)", "(let x=1 in x)(let y=2 in y)"},
	} {
		text := shown(t, c[0])
		if text != c[1] {
			t.Errorf("P6: %q is shown as %q, want %q", c[0], text, c[1])
		}
		again := shown(t, text)
		if again != text {
			t.Errorf("P6: %q is shown as %q", text, again)
		}
	}
}

// Trees that no text has.
func TestOddTrees(t *testing.T) {
	for _, list := range [][]parts.Part{nil, {{Kind: -1}}, {{Kind: 999}}, {{Kind: parts.Let}}, {{Kind: parts.Name}}} {
		text := Text(parts.Tree{Parts: list})
		if len(text) > 10 {
			t.Errorf("Text(%v) = %q", list, text)
		}
	}
	Text(parts.Tree{Parts: []parts.Part{{Kind: parts.Neg, Kids: []int{0, 1, -1}}}})
}
