package front_test

import (
	"math/rand"
	"strings"
	"testing"

	"slim/api"
	"slim/front"
)

func TestShow(t *testing.T) {
	for _, c := range [][2]string{
		{"1", "1"},
		{"(1)", "1"},
		{"( ( 1 + 2 ) )*3", "(1+2)*3"},
		{"1+(2+3)", "1+(2+3)"},
		{"(1+2)+3", "1+2+3"},
		{"let x = 1 in ( x )", "let x=1 in x"},
		{"(let x=1 in x)+2", "(let x=1 in x)+2"},
		{"007", "7"},
		{"- (-1)", "--1"},
		{"1 - (-1)", "1--1"},
		{"(f x) y", "(f x)y"},
		{"f (x y)", "f(x y)"},
		{"f(x)(y)", "f x y"},
		{"(f x y)", "f x y"},
		{"(a).(1)", "a.(1)"},
		{"(a.(0)).(1)", "a.(0).(1)"},
		{"a.((0))", "a.(0)"},
		{"(f a).(1)", "(f a).(1)"},
		{"f a.(1)", "f a.(1)"},
		{"(fun x -> x) 1", "(fun x->x)1"},
		{"(if true then 1 else 2) + 3", "(if true then 1 else 2)+3"},
		{"1 + (if true then 2 else 3)", "1+(if true then 2 else 3)"},
		{"(1 ; 2) ; 3", "(1;2);3"},
		{"1 ; (2 ; 3)", "1;2;3"},
		{"print (1)", "print 1"},
		{"print (-1)", "print(-1)"},
		{"not (not true)", "not not true"},
		{"(1 < 2) = true", "(1<2)=true"},
		{"(1,2)", "(1,2)"},
		{"((1,2),3)", "((1,2),3)"},
		{"( )", "()"},
		{"let(x,y)=((1,2))in x", "let(x,y)=(1,2)in x"},
	} {
		text, err, at := new(front.Compiler).Show(c[0])
		if text != c[1] || err != api.OK || at != 0 {
			t.Errorf("P6: Show(%q) = %q, %d, %d, want %q", c[0], text, err, at, c[1])
		}
	}
}

// The errors of P3 come ahead of those of P4, wherever they stand.
func TestShowErrors(t *testing.T) {
	for _, c := range []struct {
		src string
		err api.Errno
		at  int
	}{
		{strings.Repeat("1+", 200) + "1", api.ErrLong, 0},
		{strings.Repeat("1+", 199) + "1 ", api.OK, 0},
		{") ?", api.ErrLex, 2},
		{")))) 1x", api.ErrNum, 5},
		{strings.Repeat("(", 20) + "?", api.ErrLex, 20},
		{strings.Repeat("(", 20) + "(*", api.ErrLex, 20},
		{"A", api.ErrLex, 0},
		{"1 (* 2", api.ErrLex, 2},
		{"1+?", api.ErrLex, 2},
		{"1(*(*a*)", api.ErrLex, 1},
		{"1+2x", api.ErrNum, 2},
		{"4611686018427387904", api.ErrNum, 0},
		{"1 2)", api.ErrSyntax, 3},
		{"", api.ErrSyntax, 0},
		{"let in", api.ErrSyntax, 4},
		{"let rec f=1 in 2", api.ErrSyntax, 9},
		{"1<2<3", api.ErrSyntax, 3},
		{"(1,2,3,4,5,6,7)", api.ErrSyntax, 12},
		{"f 1 2 3 4 5", api.ErrSyntax, 10},
		{"f -", api.ErrSyntax, 3},
		{"(((((((((((((1", api.ErrNest, 12},
		{"((((((((((((1))))))))))))", api.OK, 0},
		{"x", api.OK, 0},
		{"1+true", api.OK, 0},
	} {
		text, err, at := new(front.Compiler).Show(c.src)
		if err != c.err || at != c.at || (text == "") != (err != api.OK) {
			t.Errorf("P3, P4: Show(%.40q) = %.40q, %d, %d, want %d at %d", c.src, text, err, at, c.err, c.at)
		}
	}
}

// Whatever the bytes are: an answer comes, with a place in the text, and what is shown shows itself.
func TestShowAnyBytes(t *testing.T) {
	r := rand.New(rand.NewSource(1))
	pieces := []string{"(", ")", ".(", ",", ";", "=", "-", "*", "(*", "*)", "let ", "rec ", " in ", "fun ", "->", "x", "1", " ", "\xff", "A"}
	for n := 0; n < 20000; n++ {
		src := ""
		for i := r.Intn(12); i > 0; i-- {
			src += pieces[r.Intn(len(pieces))]
		}
		checkAnswer(t, src)
	}
	for n := 0; n < 2000; n++ {
		b := make([]byte, r.Intn(410))
		for i := range b {
			b[i] = byte(r.Intn(256))
		}
		checkAnswer(t, string(b))
	}
}

func checkAnswer(t *testing.T, src string) {
	c := new(front.Compiler)
	text, err, at := c.Show(src)
	if err != api.OK {
		if text != "" || at < 0 || at > len(src) {
			t.Errorf("P1: Show(%q) = %q, %d, %d", src, text, err, at)
		}
		return
	}
	again, err, _ := c.Show(text)
	if again != text || err != api.OK || at != 0 || len(text) > len(src) {
		t.Errorf("P6: Show(%q) = %q, %d, and that %q, %d", src, text, at, again, err)
	}
}
