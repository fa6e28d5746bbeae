package types

import (
	"strings"
	"testing"

	"slim/api"
	"slim/parts"
	"slim/words"
)

func walkedText(t *testing.T, src string) (Names, api.Errno, int) {
	t.Helper()
	list, err, _ := words.Split(src)
	if err != api.OK {
		t.Fatalf("Split(%q) = %d", src, err)
	}
	tree, err, _ := parts.Parse(list, api.MaxNest)
	if err != api.OK {
		t.Fatalf("Parse(%q) = %d", src, err)
	}
	return Walk(tree)
}

// A type that is too big is none of Walk's errors: the demands are met.
func TestWalk(t *testing.T) {
	big := "let a=(1,1,1,1,1,1)in let b=(a,a,a,a,a,a)in "
	names, err, at := walkedText(t, big+"1")
	if err != api.OK || at != 0 {
		t.Errorf("P7: Walk is %d, %d", err, at)
	}
	text, err, at := names.Text()
	if text != "" || err != api.ErrBig || at != 22 {
		t.Errorf("P7: Text is %q, %d, %d", text, err, at)
	}
	names, err, at = walkedText(t, big+"b")
	if len(names.bindings) != 0 || err != api.ErrType || at != 0 {
		t.Errorf("P7: Walk is %v, %d, %d", names, err, at)
	}
	text, err, at = names.Text()
	if text != "" || err != api.OK || at != 0 {
		t.Errorf("P7: Text of nothing is %q, %d, %d", text, err, at)
	}
}

// The types of a text take no more room than some nodes for each byte, and merging them no more than a moment.
func TestRoom(t *testing.T) {
	src := "let a=1 in let b=1 in "
	for len(src) < api.MaxSrc-70 {
		src += "let a=(a,a,a,a,a,a)in let b=(b,b,b,b,b,b)in "
	}
	names, err, at := walkedText(t, src+"let c=if true then a else b in 1")
	if err != api.OK || at != 0 {
		t.Errorf("P7: Walk is %d, %d", err, at)
	}
	if len(names.graph.nodes) > 4*api.MaxSrc {
		t.Errorf("%d nodes", len(names.graph.nodes))
	}
}

// Trees that no text has.
func TestOddTrees(t *testing.T) {
	for kind := -1; kind <= parts.Put+1; kind++ {
		for kids := 0; kids < 4; kids++ {
			for names := 0; names < 3; names++ {
				list := []parts.Part{{Kind: parts.Num}, {Kind: parts.Unit}, {Kind: parts.Tuple}}
				part := parts.Part{Kind: kind, Names: strings.Fields(strings.Repeat("x ", names))}
				for i := 0; i < kids; i++ {
					part.Kids = append(part.Kids, []int{0, -7, 9, 3}[i])
				}
				list = append(list, part)
				found, err, _ := Walk(parts.Tree{Parts: list})
				if err != api.OK && len(found.bindings) > 0 {
					t.Errorf("Walk(%v) = %v, %d", list, found, err)
				}
				found.Text()
			}
		}
	}
	found, err, at := Walk(parts.Tree{})
	if len(found.bindings) > 0 || err != api.OK || at != 0 {
		t.Errorf("Walk of no parts = %v, %d, %d", found, err, at)
	}
}
