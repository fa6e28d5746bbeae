// Package check: whether a code's lines are well made, and read only what is laid.
package check

import (
	"slim/api"
	"slim/code"
)

// Fault tells a code's first error of P10 and where.
func Fault(c code.Code) (api.Errno, int) {
	err, at := lines(c)
	if err != api.OK {
		return err, at
	}
	return roads(c)
}
