package front_test

import (
	"math/rand"
	"reflect"
	"strings"
	"testing"

	"slim/api"
	"slim/front"
	"slim/slim"
)

// listed tells a code as lines, without the places that it tells.
func listed(t *testing.T, src string) []string {
	t.Helper()
	code, err, at := slim.New().Compile(src)
	if err != api.OK || at != 0 {
		t.Fatalf("P8: Compile(%q) = %d, %d", src, err, at)
	}
	text, err, at := slim.Machine().List(code)
	if err != api.OK {
		t.Fatalf("P8: List of the code of %q = %d, %d", src, err, at)
	}
	lines := strings.Split(text, "\n")
	for i, line := range lines {
		fields := strings.Fields(line)
		if len(fields) == 5 && fields[0] != "f" {
			lines[i] = strings.Join(fields[:4], " ")
		}
	}
	return lines
}

func TestCompileErrors(t *testing.T) {
	six := "let a=(1,1,1,1,1,1)in let b=(a,a,a,a,a,a)in "
	for _, c := range []struct {
		src string
		err api.Errno
		at  int
	}{
		{"", api.ErrSyntax, 0},
		{strings.Repeat(" ", 400) + "1", api.ErrLong, 0},
		{strings.Repeat(" ", 399) + "1", api.OK, 0},
		{"1+?", api.ErrLex, 2},
		{"1 (* 2", api.ErrLex, 2},
		{"1+2x", api.ErrNum, 2},
		{"4611686018427387904", api.ErrNum, 0},
		{"(((((((((((((1", api.ErrNest, 12},
		{"1 2)", api.ErrSyntax, 3},
		{"x", api.ErrUnbound, 0},
		{"let rec f x=1 in x", api.ErrUnbound, 17},
		{"true", api.ErrType, 0},
		{"fun x->x", api.ErrType, 0},
		{"1+true", api.ErrType, 2},
		{"true+x", api.ErrType, 0},
		{"x+true", api.ErrUnbound, 0},
		{"true+?", api.ErrLex, 5},
		{"true+)", api.ErrSyntax, 5},
		{six + "1", api.OK, 0},
		{six + "x", api.ErrUnbound, len(six)},
		{six + "b", api.ErrType, 0},
	} {
		code, err, at := slim.New().Compile(c.src)
		if err != c.err || at != c.at || (code == "") != (err != api.OK) {
			t.Errorf("P8: Compile(%q) = %q, %d, %d, want %d, %d", c.src, code, err, at, c.err, c.at)
		}
	}
}

// Compile has the errors of Infer, but for ErrBig; what it makes Check takes.
func TestCompileAny(t *testing.T) {
	r := rand.New(rand.NewSource(13))
	met := map[api.Errno]int{}
	for n := 0; n < 30000; n++ {
		src := ""
		switch n % 3 {
		case 0:
			list := anyText(r)
			if r.Intn(2) == 0 && len(list) > 0 {
				list = changed(r, list)
			}
			src = strings.Join(list, " ")
		case 1:
			src = confused(r, (&typist{r: r}).text(plain("int"), 1+r.Intn(4)))
		case 2:
			src = "let x = " + loose(r, nil, 1+r.Intn(4)) + " in 1"
		}
		code, err, at := new(front.Compiler).Compile(src)
		_, want, place := new(front.Compiler).Infer(src)
		if want == api.ErrBig {
			want, place = api.OK, 0
		}
		if err != want || at != place || (code == "") != (err != api.OK) {
			t.Fatalf("P8: Compile(%q) = %q, %d, %d, want %d, %d", src, code, err, at, want, place)
		}
		met[err]++
		if err == api.OK {
			if err, at := slim.Machine().Check(code); err != api.OK {
				t.Fatalf("P8: Check of the code of %q = %d, %d", src, err, at)
			}
		}
	}
	for _, err := range []api.Errno{api.OK, api.ErrSyntax, api.ErrUnbound, api.ErrType} {
		if met[err] < 1000 {
			t.Errorf("too few of a kind were tried: %v", met)
		}
	}
}

// Texts of the same parts: remarks, blanks, brackets and noughts ahead are no parts.
func TestCompileSameParts(t *testing.T) {
	for _, list := range [][]string{
		{"1/2", " 1 / 2", "(1)/(2)", "((1/2))", "01(*/*)/002"},
		{"1/0", " 1 / 0", "(1)/(0)", "((1/0))", "01(*/*)/000"},
		{"read/2", " read / 2", "(read)/(2)", "((read/2))", "read(*/*)/002"},
		{"let f=fun x y->x.(y)in f(array 2 1)1", "let f = ( fun x y -> (x) .( (y) ) ) in (f (array (2) (1)) (1))"},
		{"let f=fun x y->x.(y)in f(array 2 1)read", "let f = ( fun x y -> (x) .( (y) ) ) in (f (array (2) (1)) (read))"},
		{"print read;len(array 2 read)%3", "(print(read));(((len(array(2)(read)))%3))"},
		{"let a=array 1 1 in put a 0 2;1", "let a=(array 1 1)in((put a 0 2);1)"},
		{"let a=array 1 1 in put a read 2;1", "let a=(array 1 1)in((put a(read)2);1)"},
		{"1+2+3*4", "((1+2)+(3*4))"},
	} {
		first := listed(t, list[0])
		for _, src := range list[1:] {
			if other := listed(t, src); !reflect.DeepEqual(first, other) {
				t.Errorf("P8: the codes of %q and %q:\n%v\n%v", list[0], src, first, other)
			}
		}
	}
	r := rand.New(rand.NewSource(14))
	tried := 0
	for n := 0; n < 3000; n++ {
		src := (&typist{r: r, busy: true}).text(plain("int"), 1+r.Intn(5))
		short, err, _ := new(front.Compiler).Show(src)
		if err != api.OK {
			continue
		}
		tried++
		if first, other := listed(t, src), listed(t, short); !reflect.DeepEqual(first, other) {
			t.Fatalf("P8: the codes of %q and %q:\n%v\n%v", src, short, first, other)
		}
	}
	if tried < 1000 {
		t.Errorf("only %d texts were tried", tried)
	}
}

// The same text has the same code, whatever was compiled ahead of it.
func TestCompileTwice(t *testing.T) {
	texts := []string{"1", "let rec f x=if x<1 then 0 else f(x-1)in f 9", "let x=read in(fun y->x+y)2", "1+true", "?"}
	first := []string{}
	for _, src := range texts {
		code, _, _ := new(front.Compiler).Compile(src)
		first = append(first, code)
	}
	c := slim.New()
	for i := range texts {
		i = len(texts) - 1 - i
		code, _, _ := c.Compile(texts[i])
		if code != first[i] {
			t.Errorf("P8: Compile(%q) = %q and %q", texts[i], first[i], code)
		}
	}
}

// Texts that take as many slots, fields, functions and lines as they can.
func TestCompileLarge(t *testing.T) {
	names := "abcdefghijklmnopqrstuvwxyz"
	lets, sum, calls := "", "0", ""
	for i := range 18 {
		name := names[i : i+1]
		lets += "let " + name + "=read in "
		sum += "+" + name
		if i < 9 {
			calls += "(fun x->"
		}
	}
	deep := lets + calls + sum + strings.Repeat(")1", 9)
	for _, src := range []string{
		deep,
		lets + strings.Repeat("if read<1 then "+sum[:19]+" else ", 3) + "1",
		strings.Repeat("let(a,b,c,d,e,f)=(1,1,1,1,1,1)in ", 11) + "a+b+c+d+e+f",
		strings.Repeat("1+(", 12) + "1" + strings.Repeat(")", 12),
		"let x=" + strings.Repeat("(1,", 12) + "1" + strings.Repeat(")", 12) + "in 1",
		strings.Repeat("-", 399) + "1",
		strings.Repeat("print 1;", 49) + "1",
		strings.Repeat("let f=fun x->1 in ", 22) + "1",
		strings.Repeat("if 1<2 then 1 else ", 20) + "1",
		strings.Repeat("1+", 199) + "1",
		strings.Repeat("let a=1 in ", 36) + "a",
		strings.Repeat("let rec f a b c d=1 in ", 17) + "1",
	} {
		in := []int{1, 2, 3, 4, 5, 6, 7, 8, 9, 10, 11, 12, 13, 14, 15, 16}
		for _, c := range tried(t, src, in, 5000).both(t) {
			c.holds(t, api.MaxHeap, api.MaxDepth, 5000)
			c.enough(t)
		}
	}
}
