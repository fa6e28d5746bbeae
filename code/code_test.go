package code

import (
	"math/rand"
	"reflect"
	"testing"

	"slim/api"
)

// What Bytes writes is what Read takes apart.
func TestBytes(t *testing.T) {
	made := Code{
		Functions: []Function{{0, 0, 0, 1024}, {1, 4, 1, 3}, {2, 1, 0, 258}},
		Constants: []int{0, -1, 1 << 61, -1 << 62, 1<<62 - 1, 0x123456789abcdef},
		Lines:     []Line{{api.Ret, 0, 0, 0, 0}, {api.Div, 1, 2, 3, 400}, {255, 254, 65535, 256, 255}},
	}
	got, err, at := Read(made.Bytes())
	if err != api.OK || at != 0 || !reflect.DeepEqual(got, made) {
		t.Errorf("P9: %v, %d, %d, want %v", got, err, at, made)
	}
	r := rand.New(rand.NewSource(15))
	for range 300 {
		made := Code{Functions: []Function{{}}}
		for range r.Intn(4) {
			made.Constants = append(made.Constants, Wrapped(int(r.Uint64())))
		}
		for range 1 + r.Intn(300) {
			made.Lines = append(made.Lines, Line{r.Intn(256), r.Intn(256), r.Intn(65536), r.Intn(65536), r.Intn(65536)})
		}
		got, err, at := Read(made.Bytes())
		if err != api.OK || at != 0 || !reflect.DeepEqual(got, made) {
			t.Errorf("P9: %v, %d, %d, want %v", got, err, at, made)
		}
	}
}

// The code that DOC.md tells byte by byte.
func TestBytesOfTwoLines(t *testing.T) {
	made := Code{Functions: []Function{{}}, Constants: []int{7}, Lines: []Line{{Op: api.Ldi}, {Op: api.Ret}}}
	want := "ml\x00\x01\x00\x01\x00\x02\x00\x00\x00\x00\x00\x00\x00\x00\x00\x00\x00\x00\x00\x07\x01\x00\x00\x00\x00\x00\x00\x00\x21\x00\x00\x00\x00\x00\x00\x00"
	if got := made.Bytes(); got != want {
		t.Errorf("P9: %q, want %q", got, want)
	}
}
