package scope

import (
	"reflect"
	"strings"
	"testing"

	"slim/api"
	"slim/parts"
	"slim/words"
)

func scoped(t *testing.T, src string) Tree {
	t.Helper()
	list, err, _ := words.Split(src)
	if err != api.OK {
		t.Fatalf("Split(%q) = %d", src, err)
	}
	tree, err, _ := parts.Parse(list, api.MaxNest)
	if err != api.OK {
		t.Fatalf("Parse(%q) = %d", src, err)
	}
	return Of(tree)
}

// The bindings that a text's names mean, from the left to the right.
func TestMeant(t *testing.T) {
	for _, c := range []struct {
		src  string
		want []int
	}{
		{"x", []int{Nobody}},
		{"let x=x in x", []int{Nobody, 0}},
		{"let x=1 in let x=x in x", []int{0, 1}},
		{"(let x=1 in x)+x", []int{0, Nobody}},
		{"let x=1 in(let x=2 in x)+x", []int{1, 0}},
		{"let rec f x y=f x y in f x", []int{0, 1, 2, 0, Nobody}},
		{"let rec f f=f in f", []int{1, 0}},
		{"let(x,y,x)=x in x y", []int{Nobody, 2, 1}},
		{"fun x y x->x y", []int{2, 1}},
		{"(fun x->x)x", []int{0, Nobody}},
		{"let a=1 in fun b->let rec c d=a b c d in a b c d", []int{0, 1, 2, 3, 0, 1, 2, Nobody}},
	} {
		got := []int{}
		tree := scoped(t, c.src)
		for _, node := range tree.Nodes {
			if node.Kind == parts.Name {
				got = append(got, node.Binds...)
			}
		}
		if !reflect.DeepEqual(got, c.want) {
			t.Errorf("P14: the names of %q mean %v, want %v", c.src, got, c.want)
		}
	}
}

// What the functions of a text, the inner ones first, take from around them.
func TestFree(t *testing.T) {
	for _, c := range []struct {
		src  string
		want [][]int
	}{
		{"fun x->1", [][]int{{}}},
		{"fun x->x", [][]int{{}}},
		{"let a=1 in let b=2 in fun x->x+b", [][]int{{1}}},
		{"let a=1 in let b=2 in fun x->b+a+b", [][]int{{0, 1}}},
		{"let a=1 in fun x->let a=a in a", [][]int{{0}}},
		{"let a=1 in fun x->let(a,b)=(1,2)in a", [][]int{{}}},
		{"let a=1 in fun x->fun y->a+x+y", [][]int{{0, 1}, {0}}},
		{"let rec f x=f x in f 1", [][]int{{}}},
		{"let rec f x=fun y->f x in f 1", [][]int{{0, 1}, {}}},
		{"let a=1 in let rec f x=f a in fun y->f y", [][]int{{0}, {1}}},
	} {
		got := [][]int{}
		tree := scoped(t, c.src)
		for _, node := range tree.Nodes {
			if node.Kind == parts.Fun {
				got = append(got, node.Free.List())
			}
		}
		if !reflect.DeepEqual(got, c.want) {
			t.Errorf("the functions of %q take %v, want %v", c.src, got, c.want)
		}
		if list := tree.Node(tree.Root()).Free.List(); len(list) > 0 {
			t.Errorf("%q takes %v", c.src, list)
		}
	}
}

// A let rec is a let of a function that knows itself; all else is as it was.
func TestKinds(t *testing.T) {
	tree := scoped(t, " let rec f x y=1-2 in fun z->3")
	want := []Node{
		{Kind: parts.Num, At: 15, Num: 1}, {Kind: parts.Num, At: 17, Num: 2}, {Kind: parts.Sum, At: 16, Word: words.Minus, Kids: []int{0, 1}},
		{Kind: parts.Fun, At: 1, Binds: []int{0, 1, 2}, Kids: []int{2}},
		{Kind: parts.Num, At: 29, Num: 3}, {Kind: parts.Fun, At: 22, Binds: []int{Nobody, 3}, Kids: []int{4}},
		{Kind: parts.Let, At: 1, Binds: []int{0}, Kids: []int{3, 5}},
	}
	if !reflect.DeepEqual(tree.Nodes, want) {
		t.Errorf("%v", tree.Nodes)
	}
}

func TestSet(t *testing.T) {
	odd := []int{-1, -64, -65, (api.MaxSrc/wide + 1) * wide, api.MaxSrc + 1000, 1 << 62, -1 << 63}
	s := Set{}
	for _, binding := range append([]int{0, 63, 64, api.MaxSrc - 1}, odd...) {
		s = s.With(binding)
	}
	if got := s.List(); !reflect.DeepEqual(got, []int{0, 63, 64, api.MaxSrc - 1}) {
		t.Errorf("With: %v", got)
	}
	for _, binding := range odd {
		if s.Has(binding) {
			t.Errorf("it has %d", binding)
		}
	}
	if got := s.Without(append([]int{64, 1}, odd...)).List(); !reflect.DeepEqual(got, []int{0, 63, api.MaxSrc - 1}) {
		t.Errorf("Without: %v", got)
	}
	if got := s.Joined(Set{}.With(1).With(63)).List(); !reflect.DeepEqual(got, []int{0, 1, 63, 64, api.MaxSrc - 1}) {
		t.Errorf("Joined: %v", got)
	}
	if got := s.List(); len(got) != 4 {
		t.Errorf("it changed: %v", got)
	}
}

// Trees that no text has.
func TestOddTrees(t *testing.T) {
	for kind := -1; kind <= parts.Put+1; kind++ {
		for kids := 0; kids < 4; kids++ {
			for names := 0; names < 3; names++ {
				part := parts.Part{Kind: kind, Names: strings.Fields(strings.Repeat("x ", names))}
				for i := 0; i < kids; i++ {
					part.Kids = append(part.Kids, []int{0, -7, 9, 1}[i])
				}
				tree := Of(parts.Tree{Parts: []parts.Part{{Kind: parts.Num}, part}})
				for n := range tree.Nodes {
					for i := -1; i < 4; i++ {
						if tree.Kid(n, i) >= n {
							t.Errorf("Kid(%d, %d) = %d", n, i, tree.Kid(n, i))
						}
					}
				}
			}
		}
	}
	nameless := []parts.Part{{Kind: parts.Num}, {Kind: parts.Name}, {Kind: parts.Let, Names: []string{"x"}, Kids: []int{0, 1}}}
	if node := Of(parts.Tree{Parts: nameless}).Node(1); !reflect.DeepEqual(node.Binds, []int{Nobody}) {
		t.Errorf("a name without a name means %v", node.Binds)
	}
	if tree := (Tree{}); tree.Root() != -1 || tree.Kid(0, 0) != -1 || tree.Node(-1).Kind != parts.None || tree.Node(0).Kind != parts.None {
		t.Errorf("a tree without nodes has some")
	}
	if tree := (Tree{Nodes: []Node{{Kids: []int{0, 1}}}}); tree.Kid(0, 0) != -1 || tree.Kid(0, 1) != -1 {
		t.Errorf("a node is its own")
	}
}
