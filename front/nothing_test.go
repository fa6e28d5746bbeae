package front_test

import (
	"fmt"
	"math/big"
	"math/rand"
	"reflect"
	"strings"
	"testing"

	"slim/api"
	"slim/slim"
)

var signs = []string{"+", "-", "*", "/", "%", "=", "<>", "<", "<=", ">", ">="}

// said: how a text says a number: the grammar has none below 0.
func said(n int) string {
	if n >= 0 {
		return fmt.Sprint(n)
	}
	return fmt.Sprintf("(-%d-1)", -(n + 1))
}

// between: what a sign makes of two numbers, reckoned with numbers of any size.
func between(sign string, a, b int) int {
	x, y, z := big.NewInt(int64(a)), big.NewInt(int64(b)), new(big.Int)
	holds := map[string]bool{"=": a == b, "<>": a != b, "<": a < b, "<=": a <= b, ">": a > b, ">=": a >= b}
	switch sign {
	case "+":
		z.Add(x, y)
	case "-":
		z.Sub(x, y)
	case "*":
		z.Mul(x, y)
	case "/":
		z.Quo(x, y)
	case "%":
		z.Rem(x, y)
	default:
		if holds[sign] {
			z.SetInt64(1)
		}
	}
	round := new(big.Int).Lsh(big.NewInt(1), 63)
	z.Mod(z, round)
	if z.Cmp(big.NewInt(api.MaxNum)) > 0 {
		z.Sub(z, round)
	}
	return int(z.Int64())
}

// sayings: texts that leave nothing to do but a sign between two numbers.
func sayings(sign string, a, b int) []string {
	of := func(x, y string) string {
		if strings.Contains("+-*/%", sign) {
			return x + sign + y
		}
		return "if " + x + sign + y + " then 1 else 0"
	}
	one, two := said(a), said(b)
	return []string{
		of(one, two),
		" ( " + of(" (("+one+")) ", "(**)("+two+")") + " )\n",
		"let rec f x y=" + of("x", "y") + " in f(" + one + ")(" + two + ")",
		"let rec f x y=" + of("y", "x") + " in f " + two + " " + one,
		"let rec a_1 a_2 a_3 = (* *) ( " + of("a_2", "a_3") + " ) in ( a_1 ( (" + one + ") ) " + two + " )",
		"let(x,y)=(" + one + "," + two + ")in " + of("x", "y"),
		"let ( y , x ) = ( " + two + " , " + one + " ) in " + of("(x)", "(y)"),
		"let f=fun x y->" + of("x", "y") + " in f(" + one + ")(" + two + ")",
		"(fun x y->" + of("x", "y") + ")" + one + " " + two,
		"let x=" + one + " in let y=" + two + " in " + of("x", "y"),
	}
}

// leavesNothing: the code of a text is two lines, which are run in no room at all.
func leavesNothing(t *testing.T, src string, val int) {
	t.Helper()
	code, err, at := slim.New().Compile(src)
	if err != api.OK || at != 0 {
		t.Fatalf("P8: Compile(%q) = %d, %d", src, err, at)
	}
	want := fmt.Sprintf("f 0 0 0 0\nk %d\nldi 0 0 0 0\nret 0 0 0 0\n", val)
	if got, _, _ := slim.Machine().List(code); got != want {
		t.Errorf("P16: the code of %q is\n%s, want\n%s", src, got, want)
	}
	m := slim.Machine()
	m.Start(code, 0, 1, nil)
	if r := m.Go(2); !reflect.DeepEqual(r, api.Result{Val: val, Steps: 2}) {
		t.Errorf("P16: %q: %+v, want %d", src, r, val)
	}
}

func TestCompileNothingToDo(t *testing.T) {
	least := -api.MaxNum - 1
	edges := []int{0, 1, -1, 2, 3, 4, -5, 6, 7, -9, 1<<31 - 1, 1 << 31, 1 << 32, 3037000500, api.MaxNum - 1, api.MaxNum, least, least + 1}
	pairs := [][2]int{}
	for _, a := range edges {
		for _, b := range edges {
			pairs = append(pairs, [2]int{a, b})
		}
	}
	r := rand.New(rand.NewSource(16))
	for range 200 {
		a, b := int(r.Uint64())>>(1+r.Intn(63)), int(r.Uint64())>>(1+r.Intn(63))
		pairs = append(pairs, [2]int{a, b}, [2]int{a, a}, [2]int{a, -1 - b})
	}
	for _, sign := range signs {
		for _, p := range pairs {
			if p[1] == 0 && strings.Contains("/%", sign) {
				continue
			}
			for _, src := range sayings(sign, p[0], p[1]) {
				leavesNothing(t, src, between(sign, p[0], p[1]))
			}
		}
	}
}

// Further texts of the kind: other ways, numbers and names.
func TestCompileNothingFurther(t *testing.T) {
	for _, c := range []struct {
		src string
		val int
	}{
		{"3*4", 12}, {"(-5-1)", -6}, {"-5-1", -6}, {"-5", -5}, {"--5*-(-2)", 10}, {"7", 7},
		{"if 3<4 then 1 else 0", 1}, {"if 3>=4 then 10 else(-20-1)", -21}, {"if not(3<4)then 1 else 2", 2},
		{"let rec f x y=x*y in f(3)(4)", 12}, {"let rec f x y=x*x in f 3 4", 9}, {"let rec f x=x*4 in f 3", 12},
		{"let rec f x y z=x*y-z in f 3 4 5", 7}, {"let rec f x y z v=if x<y then z else v in f 3 4 5 6", 5},
		{"let(x,y)=(3,4)in x*y", 12}, {"let(x,y)=(3,4)in y", 4}, {"let(x,y,z)=(3,4,5)in x*y+z", 17},
		{"let(x,y)=(3,4)in let rec f x y=x-y in f y x", 1}, {"let x=1/1 in 2", 2}, {"if true then 1 else 1/0", 1}, {"if false then read else 3", 3},
		{"let rec f x=print x;f(1/0)in 4", 4},
	} {
		leavesNothing(t, c.src, c.val)
	}
}

// A division by 0 is left to do, and goes wrong at its sign.
func TestCompileNothingByZero(t *testing.T) {
	for _, sign := range []string{"/", "%"} {
		for _, a := range []int{0, 1, -1, 7, api.MaxNum, -api.MaxNum - 1} {
			for _, src := range sayings(sign, a, 0) {
				c := tried(t, src, nil, 1000)
				c.endsAs(t, ended{err: api.RunDiv, n: strings.Index(src, sign)})
			}
		}
	}
}

// Texts that take so many steps, or never end, that two lines would be too far ahead of them.
func TestCompileNotTooFarAhead(t *testing.T) {
	list := []string{"let rec f n=f n in f 0", "let rec f n=1+f n in f 0", "let rec f n=let a=array 9 n in f(a.(0)+1)in f 0"}
	doubled, names := "let a=fun x->x+1 in ", "abcdefghijklmn"
	for i := 1; i < len(names); i++ {
		list = append(list, doubled+names[i-1:i]+" 0")
		doubled += fmt.Sprintf("let %c=fun x->%c(%c x)in ", names[i], names[i-1], names[i-1])
	}
	many := "let t=(1,1,1,1,1,1)in " + strings.Repeat("let(a,a,a,a,a,a)=t in ", 12)
	for n := 0; n < 300; n += 1 + n/8 {
		list = append(list, fmt.Sprintf("let rec f n=if n<1 then 7 else f(n-1)in f %d", n))
		list = append(list, fmt.Sprintf("let rec f n=let g=fun x->1 in let g=fun x->1 in if n<1 then 7 else f(n-1)in f %d", n))
		list = append(list, fmt.Sprintf(many+"let rec f n=let g=fun x->1 in let g=fun x->1 in if n<1 then 7 else f(n-1)in f %d", n))
	}
	list = append(list, many+"1", "let a=fun b->b in "+strings.Repeat("let a=fun b->a b in ", 19)+"1")
	two, more := 0, 0
	for _, src := range list {
		c := tried(t, src, nil, 5000)
		all := c.both(t)
		whole := all[len(all)-1].holds(t, api.MaxHeap, api.MaxDepth, 5000)
		if c.meaning.ended && whole.Err == api.OK && c.meaning.steps >= whole.Steps*208 {
			t.Errorf("P15: %q takes %d steps, and its code %d lines", src, c.meaning.steps, whole.Steps)
		}
		if r := c.holds(t, api.MaxHeap, api.MaxDepth, 5000); r.Steps == 2 {
			two++
		} else {
			more++
		}
	}
	if two < 5 || more < 20 {
		t.Errorf("only %d texts leave nothing to do, %d something", two, more)
	}
}
