package emit

import (
	"testing"

	"slim/api"
	"slim/check"
	"slim/code"
	"slim/parts"
	"slim/scope"
	"slim/words"
)

func codeOf(t *testing.T, src string) code.Code {
	t.Helper()
	list, err, _ := words.Split(src)
	if err != api.OK {
		t.Fatalf("Split(%q) = %d", src, err)
	}
	tree, err, _ := parts.Parse(list, api.MaxNest)
	if err != api.OK {
		t.Fatalf("Parse(%q) = %d", src, err)
	}
	made := Code(scope.Of(tree))
	if err, at := check.Fault(made); err != api.OK {
		t.Fatalf("Fault of the code of %q = %d, %d:\n%s", src, err, at, made.Text())
	}
	return made
}

// The lines of some texts: what is read for the last time is cleared, what is not read is not kept.
func TestLines(t *testing.T) {
	for _, c := range [][2]string{
		{"7", "f 0 0 0 0\nk 7\nldi 0 0 0 0\nret 0 0 0 0\n"},
		{" 7/read", "f 0 0 0 0\nk 7\nrdi 1 0 0 3\nldi 0 0 0 0\ndiv 0 0 1 2\nret 0 0 0 0\n"},
		{"let x=read in let y=read in x+x", "f 0 0 0 1\nrdi 0 0 0 6\nsts 0 0 0 0\nrdi 0 0 0 20\nlds 0 0 0 0\nldk 1 0 0 0\nadd 0 0 1 0\nret 0 0 0 0\n"},
		{"let x=read in if x<1 then 2 else x", "f 0 0 0 1\nk 1\nk 2\nrdi 0 0 0 6\nsts 0 0 0 0\nlds 0 0 0 0\nldi 1 0 0 0\nlt 0 0 1 0\njz 0 9 0 0\n" +
			"clr 0 0 0 0\nldi 0 1 0 0\nret 0 0 0 0\nldk 0 0 0 0\nret 0 0 0 0\n"},
		{"let x=read in(fun y->x)1", "f 0 0 0 1\nf 7 1 1 1\nk 1\nrdi 0 0 0 6\nsts 0 0 0 0\nclo 7 1 1 0\nldk 0 0 0 0\nset 7 0 0 0\nldi 0 0 0 0\ntclc 0 1 0 0\n" +
			"sts 7 0 0 0\nldk 0 0 0 0\nfld 0 0 0 0\nret 0 0 0 0\n"},
	} {
		if got := codeOf(t, c[0]).Text(); got != c[1] {
			t.Errorf("the code of %q is\n%s, want\n%s", c[0], got, c[1])
		}
	}
}

// Trees that no text has: there is some code.
func TestOddTrees(t *testing.T) {
	for kind := -1; kind <= parts.Put+1; kind++ {
		for kids := 0; kids < 8; kids++ {
			for binds := 0; binds < 9; binds++ {
				node := scope.Node{Kind: kind, Word: kids + words.Unequal, Free: scope.Set{}.With(binds)}
				for i := 0; i < kids; i++ {
					node.Kids = append(node.Kids, []int{1, 0, -7, 9, 2, 1, 0, 1}[i])
				}
				for i := 0; i < binds; i++ {
					node.Binds = append(node.Binds, []int{0, -1, 1 << 40, api.MaxSrc, 3, 4, 5, -1 << 63}[i])
				}
				leaf := scope.Node{Kind: parts.Name, Binds: []int{binds}, Free: scope.Set{}.With(binds)}
				made := Code(scope.Tree{Nodes: []scope.Node{{Kind: parts.Num}, {Kind: parts.Neg, Kids: []int{0}}, leaf, node, node}})
				if len(made.Functions) == 0 || len(made.Lines) == 0 {
					t.Errorf("%v has no code", node)
				}
				made.Bytes()
			}
		}
	}
	if made := Code(scope.Tree{}); len(made.Functions) != 1 {
		t.Errorf("a tree without nodes has the code %v", made)
	}
}

// Bindings that no text has lie nowhere.
func TestOddBindings(t *testing.T) {
	f := newFrame()
	for _, binding := range []int{-1, -1 << 63, api.MaxSrc, api.MaxSrc + 1, 1 << 62} {
		f.settle(binding, 3, 2)
		if got := f.homeOf(binding); got.slot != nowhere || got.field != nowhere {
			t.Errorf("binding %d lies in %v", binding, got)
		}
	}
	f.settle(api.MaxSrc-1, 3, 2)
	if got := f.homeOf(api.MaxSrc - 1); got.slot != 3 || got.field != 2 {
		t.Errorf("the last binding lies in %v", got)
	}
}
