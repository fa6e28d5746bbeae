package words

import (
	"fmt"
	"strings"
	"testing"

	"slim/api"
)

// told writes words down: each as its text and place.
func told(list []Word) string {
	out := []string{}
	for _, w := range list {
		text := Text(w.Kind)
		switch w.Kind {
		case Num:
			text = fmt.Sprintf("#%d", w.Num)
		case Name:
			text = "'" + w.Name
		case End:
			text = "end"
		}
		out = append(out, fmt.Sprintf("%s@%d", text, w.At))
	}
	return strings.Join(out, " ")
}

func TestSplit(t *testing.T) {
	for _, c := range [][2]string{
		{"", "end@0"},
		{" \t\r\n", "end@4"},
		{"let rec in if then else fun not", "let@0 rec@4 in@8 if@11 then@14 else@19 fun@24 not@28 end@31"},
		{"true false read print len array put", "true@0 false@5 read@11 print@16 len@22 array@26 put@32 end@35"},
		{"lets le t_ _ _1 a1 x_y print1 iff", "'lets@0 'le@5 't_@8 '_@11 '_1@13 'a1@16 'x_y@19 'print1@23 'iff@30 end@33"},
		{"az09_", "'az09_@0 end@5"},
		{"0 007 10 4611686018427387903", "#0@0 #7@2 #10@6 #4611686018427387903@9 end@28"},
		{"0004611686018427387903", "#4611686018427387903@0 end@22"},
		{".(<><=>=->", ".(@0 <>@2 <=@4 >=@6 ->@8 end@10"},
		{"(),;=<>+-*/%", "(@0 )@1 ,@2 ;@3 =@4 <>@5 +@7 -@8 *@9 /@10 %@11 end@12"},
		{"< > < = > = - >", "<@0 >@2 <@4 =@6 >@8 =@10 -@12 >@14 end@15"},
		{"<<>>==-->", "<@0 <>@1 >=@3 =@5 -@6 ->@7 end@9"},
		{"a.(1)", "'a@0 .(@1 #1@3 )@4 end@5"},
		{"a.(*", "'a@0 .(@1 *@3 end@4"},
		{"1*)", "#1@0 *@1 )@2 end@3"},
		{"( *)", "(@0 *@2 )@3 end@4"},
		{"a(**)b", "'a@0 'b@5 end@6"},
		{"(***)1(*A?\v\x00\xff*)", "#1@5 end@15"},
		{"(*(*)*)*)1", "#1@9 end@10"},
		{"(*a(*b*)c(*(*d*)*)*)1", "#1@20 end@21"},
		{"(*(**)*)*)", "*@8 )@9 end@10"},
		{"1-1", "#1@0 -@1 #1@2 end@3"},
	} {
		list, err, at := Split(c[0])
		if told(list) != c[1] || err != api.OK || at != 0 {
			t.Errorf("P3: Split(%q) = %s, %d, %d, want %s", c[0], told(list), err, at, c[1])
		}
	}
}

func TestSplitErrors(t *testing.T) {
	for _, c := range []struct {
		src string
		err api.Errno
		at  int
	}{
		{strings.Repeat("a", 401), api.ErrLong, 0},
		{strings.Repeat(" ", 401), api.ErrLong, 0},
		{strings.Repeat("?", 401), api.ErrLong, 0},
		{"1 A", api.ErrLex, 2},
		{"aB", api.ErrLex, 1},
		{"1A", api.ErrLex, 1},
		{"a . (", api.ErrLex, 2},
		{"a.", api.ErrLex, 1},
		{"1.5", api.ErrLex, 1},
		{"1\v", api.ErrLex, 1},
		{"1\f", api.ErrLex, 1},
		{"\x00", api.ErrLex, 0},
		{"a\x80", api.ErrLex, 1},
		{"é", api.ErrLex, 0},
		{"`", api.ErrLex, 0},
		{"{", api.ErrLex, 0},
		{":", api.ErrLex, 0},
		{"/@", api.ErrLex, 1},
		{"(*", api.ErrLex, 0},
		{"(*)", api.ErrLex, 0},
		{"1 (*a(*b*)", api.ErrLex, 2},
		{"(**)(*(*(*", api.ErrLex, 4},
		{"(*1x", api.ErrLex, 0},
		{"1x", api.ErrNum, 0},
		{"a 1_", api.ErrNum, 2},
		{"0x1", api.ErrNum, 0},
		{"4611686018427387904", api.ErrNum, 0},
		{"04611686018427387904", api.ErrNum, 0},
		{"4611686018427387910", api.ErrNum, 0},
		{"9223372036854775808", api.ErrNum, 0},
		{"18446744073709551616", api.ErrNum, 0},
		{strings.Repeat("9", 400), api.ErrNum, 0},
		{"1x ?", api.ErrNum, 0},
		{"? 1x", api.ErrLex, 0},
		{"1x (*", api.ErrNum, 0},
	} {
		list, err, at := Split(c.src)
		if list != nil || err != c.err || at != c.at {
			t.Errorf("P3: Split(%.40q) = %s, %d, %d, want %d at %d", c.src, told(list), err, at, c.err, c.at)
		}
	}
}

func TestSplitLongest(t *testing.T) {
	for _, src := range []string{strings.Repeat("a", 400), strings.Repeat("0", 400), strings.Repeat(" ", 400)} {
		_, err, at := Split(src)
		if err != api.OK || at != 0 {
			t.Errorf("P3: Split(%.10q ..) = %d, %d", src, err, at)
		}
	}
}

// Every byte alone: a word, a sign, a blank, or ErrLex.
func TestSplitBytes(t *testing.T) {
	for c := 0; c < 256; c++ {
		want := api.ErrLex
		if strings.IndexByte("abcdefghijklmnopqrstuvwxyz0123456789_(),;=<>+-*/% \t\n\r", byte(c)) >= 0 {
			want = api.OK
		}
		_, err, at := Split(string([]byte{byte(c)}))
		if err != want || at != 0 {
			t.Errorf("P3: Split(%q) = %d, %d, want %d", []byte{byte(c)}, err, at, want)
		}
	}
}

func TestText(t *testing.T) {
	for _, kind := range []int{-1, End, Num, Name, Rest + 1} {
		if Text(kind) != "" {
			t.Errorf("Text(%d) = %q", kind, Text(kind))
		}
	}
}
