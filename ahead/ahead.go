// Package ahead: a code that leaves nothing to do is run ahead of its time (P16).
package ahead

import (
	"slim/api"
	"slim/code"
	"slim/run"
)

// perLine: a run that came to its end took no more than so many steps of the text for each of its lines.
// Most of them are taken where a function is made: one for each binding in scope, which are fewer than half of the text's bytes; eight are left for that part itself and a let of six names around it.
const perLine = api.MaxSrc/2 + 8

// most: two lines may stand in the place of so many, and be no further ahead of the text than P15 lets them be.
const most = (2 + 1) * api.Slack / perLine

// Done tells a code that ends as the given one does: just two lines, if that one comes to a number soon, and prints and reads nothing on its way.
func Done(c code.Code) code.Code {
	// Without input a code that reads does not come to a number.
	r := run.Begin(c, api.MaxHeap, api.MaxDepth, nil)
	end := r.Go(most)
	if end.Err != api.OK || len(end.Out) > 0 {
		return c
	}
	return code.Code{
		Functions: []code.Function{{}},
		Constants: []int{end.Val},
		Lines:     []code.Line{{Op: api.Ldi}, {Op: api.Ret}},
	}
}
