// Package front: the compiler: see DOC.md.
package front

import (
	"slim/ahead"
	"slim/api"
	"slim/emit"
	"slim/parts"
	"slim/scope"
	"slim/show"
	"slim/types"
	"slim/words"
)

// Compiler turns texts into codes.
type Compiler struct{}

// Compile makes a text's code, or tells its first error and where (P8, P14 to P16).
func (c *Compiler) Compile(src string) (string, api.Errno, int) {
	tree, err, at := treeOf(src)
	if err != api.OK {
		return "", err, at
	}
	err, at = types.Fault(tree)
	if err != api.OK {
		return "", err, at
	}
	made := emit.Code(scope.Of(tree))
	left := ahead.Done(made)
	return left.Bytes(), api.OK, 0
}

// Show tells the shortest text, or the first error and where (P6).
func (c *Compiler) Show(src string) (string, api.Errno, int) {
	tree, err, at := treeOf(src)
	if err != api.OK {
		return "", err, at
	}
	return show.Text(tree), api.OK, 0
}

// Infer tells the names that a text binds, and their types, or the first error and where (P7).
func (c *Compiler) Infer(src string) (string, api.Errno, int) {
	tree, err, at := treeOf(src)
	if err != api.OK {
		return "", err, at
	}
	names, err, at := types.Walk(tree)
	if err != api.OK {
		return "", err, at
	}
	return names.Text()
}

func treeOf(src string) (parts.Tree, api.Errno, int) {
	list, err, at := words.Split(src)
	if err != api.OK {
		return parts.Tree{}, err, at
	}
	return parts.Parse(list, api.MaxNest)
}
