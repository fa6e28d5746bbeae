// Package words: a text's words and signs (P3).
package words

import "slim/api"

// Word: a word or a sign, and where it begins.
type Word struct {
	Kind int
	At   int
	Num  int    // of a number
	Name string // of a name
}

// Split tells a text's words, with an End behind them at the text's length; or the first error and where.
func Split(src string) ([]Word, api.Errno, int) {
	if len(src) > api.MaxSrc {
		return nil, api.ErrLong, 0
	}
	list := []Word{}
	at := skip(src, 0)
	for at < len(src) {
		word, err, end := wordAt(src, at)
		if err != api.OK {
			return nil, err, at
		}
		list = append(list, word)
		at = skip(src, end)
	}
	list = append(list, Word{Kind: End, At: len(src)})
	return list, api.OK, 0
}

// IsLetter tells whether a byte belongs to words: two words that stand together become one.
func IsLetter(c byte) bool {
	return 'a' <= c && c <= 'z' || isDigit(c) || c == '_'
}

func isDigit(c byte) bool {
	return '0' <= c && c <= '9'
}

func isBlank(c byte) bool {
	return c == ' ' || c == '\t' || c == '\n' || c == '\r'
}

func standsAt(src string, at int, text string) bool {
	end := at + len(text)
	return 0 <= at && end <= len(src) && src[at:end] == text
}

// skip goes on behind blanks and remarks. It stays at a remark that does not end, where no word begins.
func skip(src string, at int) int {
	for at < len(src) {
		end := at + 1
		if !isBlank(src[at]) {
			end = remarkEnd(src, at)
		}
		if end <= at {
			return at
		}
		at = end
	}
	return at
}

// remarkEnd tells the place behind the remark that begins at a place; that place itself, if none begins there or it does not end.
func remarkEnd(src string, begin int) int {
	if !standsAt(src, begin, "(*") {
		return begin
	}
	open := 1
	at := begin + 2
	for at < len(src) && open > 0 {
		if standsAt(src, at, "(*") {
			open++
			at += 2
		} else if standsAt(src, at, "*)") {
			open--
			at += 2
		} else {
			at++
		}
	}
	if open > 0 {
		return begin
	}
	return at
}

// wordAt tells the word that begins at a place, and the place behind it.
func wordAt(src string, at int) (Word, api.Errno, int) {
	if at < 0 || at >= len(src) || standsAt(src, at, "(*") {
		return Word{}, api.ErrLex, 0
	}
	if !IsLetter(src[at]) {
		return signAt(src, at)
	}
	end := at
	for end < len(src) && IsLetter(src[end]) {
		end++
	}
	text := src[at:end]
	if !isDigit(src[at]) {
		return named(text, at), api.OK, end
	}
	num := numberOf(text)
	if num < 0 {
		return Word{}, api.ErrNum, 0
	}
	return Word{Kind: Num, At: at, Num: num}, api.OK, end
}

func signAt(src string, at int) (Word, api.Errno, int) {
	for kind := Index; kind <= Rest; kind++ {
		text := Text(kind)
		if standsAt(src, at, text) {
			return Word{Kind: kind, At: at}, api.OK, at + len(text)
		}
	}
	return Word{}, api.ErrLex, 0
}

func named(text string, at int) Word {
	for kind := Let; kind <= Put; kind++ {
		if Text(kind) == text {
			return Word{Kind: kind, At: at}
		}
	}
	return Word{Kind: Name, At: at, Name: text}
}

// numberOf tells a number's value; -1, if it is none or too large.
func numberOf(text string) int {
	num := 0
	for i := 0; i < len(text); i++ {
		if !isDigit(text[i]) {
			return -1
		}
		digit := int(text[i] - '0')
		if num > (api.MaxNum-digit)/10 {
			return -1
		}
		num = num*10 + digit
	}
	return num
}
