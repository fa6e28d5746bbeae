package vm_test

import (
	"strings"
	"testing"

	"slim/api"
	"slim/slim"
)

func bytesOf(n int, size int) string {
	list := make([]byte, size)
	for i := size - 1; i >= 0; i-- {
		list[i] = byte(n)
		n >>= 8
	}
	return string(list)
}

func row(first, params, want, slots int) string {
	return bytesOf(first, 2) + bytesOf(params, 1) + bytesOf(want, 1) + bytesOf(slots, 2)
}

// ln: an operation and its fields R, X, Y, P, as many as are not 0.
func ln(op int, fields ...int) string {
	all := [4]int{}
	copy(all[:], fields)
	return bytesOf(op, 1) + bytesOf(all[0], 1) + bytesOf(all[1], 2) + bytesOf(all[2], 2) + bytesOf(all[3], 2)
}

func coded(rows []string, constants []int, lines ...string) string {
	s := "ml" + bytesOf(len(rows), 2) + bytesOf(len(constants), 2) + bytesOf(len(lines), 2) + strings.Join(rows, "")
	for _, n := range constants {
		s += bytesOf(n, 8)
	}
	return s + strings.Join(lines, "")
}

// single: a code of one function.
func single(slots int, constants []int, lines ...string) string {
	return coded([]string{row(0, 0, 0, slots)}, constants, lines...)
}

func rows(list ...string) []string { return list }

func join(lists ...[]string) []string {
	all := []string{}
	for _, list := range lists {
		all = append(all, list...)
	}
	return all
}

func times(n int, line string) []string {
	all := []string{}
	for range n {
		all = append(all, line)
	}
	return all
}

var ret = ln(api.Ret)

// started: how a code stands behind a grant, on a machine of its own.
func started(t *testing.T, s string, words, depth, fuel int, in ...int) api.Result {
	t.Helper()
	m := slim.Machine()
	if err, at := m.Start(s, words, depth, in); err != api.OK {
		text, _, _ := m.List(s)
		t.Fatalf("P11: Start = %d, %d of\n%s", err, at, text)
	}
	return m.Go(fuel)
}
