package front_test

import (
	"math/rand"
	"strings"
	"testing"

	"slim/api"
	"slim/front"
)

var tight = strings.NewReplacer("( ", "(", " )", ")", " , ", ",", " ; ", ";", " = ", "=", " + ", "+", " - ", "-", " * ", "*", " / ", "/", " % ", "%",
	" -> ", "->", " < ", "<", " <= ", "<=", " > ", ">", " >= ", ">=", " <> ", "<>", " .(", ".(", " (", "(")

// tightened writes a text shorter, so that more of them are not too long.
func tightened(src string) string {
	for old := ""; old != src; {
		old, src = src, tight.Replace(src)
	}
	return src
}

func TestCompileRoom(t *testing.T) {
	r := rand.New(rand.NewSource(11))
	met := map[api.Errno]int{}
	made, deep := 0, 0
	for n := 0; n < 20000; n++ {
		y := &typist{r: r, busy: true}
		src := y.text(plain("int"), 1+r.Intn(5))
		if r.Intn(2) == 0 {
			src = y.loop(plain("int"), 1+r.Intn(5))
		}
		src = tightened(src)
		_, err, at := new(front.Compiler).Compile(src)
		if err == api.ErrLong || err == api.ErrNest {
			continue
		}
		if err != api.OK {
			t.Fatalf("P8: Compile(%q) = %d, %d", src, err, at)
		}
		in := []int{}
		for range r.Intn(6) {
			in = append(in, r.Intn(7)-1)
		}
		c := tried(t, src, in, 4000)
		words, depth := 2*greatest(c.meaning.reach)+2, greatest(c.meaning.calls)
		words, depth = min(r.Intn(words), api.MaxHeap), 1+min(r.Intn(depth), api.MaxDepth-1)
		for _, c := range c.both(t) {
			c.enough(t)
			result := c.holds(t, words, depth, 1000)
			met[result.Err]++
		}
		if c.meaning.blocks > 1 {
			made++
		}
		if greatest(c.meaning.calls) > 2 {
			deep++
		}
	}
	for _, err := range []api.Errno{api.OK, api.RunIndex, api.OutMemory, api.OutStack} {
		if met[err] < 500 {
			t.Errorf("too few of a kind were tried: %v", met)
		}
	}
	if made < 5000 || deep < 1000 {
		t.Errorf("only %d texts make blocks, %d go deep", made, deep)
	}
}

// Loops that never end, hold more and more, or give it up again, in all rooms that matter.
func TestCompileLoops(t *testing.T) {
	for _, src := range []string{
		"let rec f n=f(n+1)in f 0",
		"let rec f n=1+f(n+1)in f 0",
		"let rec f n=print n;f(n+1)in f 0",
		"let rec f n=print n;1+f(n+read)in f 0",
		"let rec f n=let a=array 3 n in print n;f(n+1)+a.(0)in f 0",
		"let rec f n=let a=array 3 n in print a.(0);f(n+1)in f 0",
		"let rec f n=let a=array 3 n in print a.(0);1+f(n+1)in f 0",
		"let rec f n g=print(g n);f(n+1)(fun x->g x+1)in f 0(fun x->x)",
		"let rec f n g=if n>5 then g n else f(n+1)(fun x->g x+read)in f 0(fun x->x)",
		"let rec f n=let(a,b)=(print n;n,(n,n))in let(c,d)=b in f(c+1)in f 0",
		"let rec f n=if n>9 then 0 else(let t=(n,n)in let u=(t,t)in if n%2=0 then f(n+1)else let(v,w)=u in let(x,y)=v in 1+f(x+1))in f 0",
		"let a=array 9(fun x->x)in let rec f n=if n>8 then a.(8)1 else(let g=a.(n-1)in put a n(fun x->g(x+n));f(n+1))in f 1",
		"let rec a x=if x<1 then read else(let rec b y=if y<1 then a(x-1)else(print y;b(y-1))in b x)in a 4",
		"let t=(read,read)in let rec f n=if n=0 then 0 else let a=array 9 n in f(a.(8)-1)in let z=f 20 in let(x,y)=t in x-y",
	} {
		c := tried(t, src, []int{1, 2, 3, 4, 5}, 2000)
		c.enough(t)
		for words := 0; words <= 2*min(greatest(c.meaning.reach), 60)+2; words++ {
			c.holds(t, words, 3, 600)
			c.holds(t, words, api.MaxDepth, 1200)
		}
	}
}
