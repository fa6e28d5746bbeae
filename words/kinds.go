package words

// The kinds of words.
const (
	End = iota // behind the last word of a text
	Num
	Name
	Let
	Rec
	In
	If
	Then
	Else
	Fun
	Not
	True
	False
	Read
	Print
	Len
	Array
	Put
	Index
	Unequal
	AtMost
	AtLeast
	Arrow
	Open
	Close
	Comma
	Semi
	Equal
	Less
	Greater
	Plus
	Minus
	Times
	Over
	Rest
)

// The longer signs stand ahead of the shorter ones that they begin with: the first that fits is the longest.
var texts = [...]string{
	Let: "let", Rec: "rec", In: "in", If: "if", Then: "then", Else: "else", Fun: "fun", Not: "not",
	True: "true", False: "false", Read: "read", Print: "print", Len: "len", Array: "array", Put: "put",
	Index: ".(", Unequal: "<>", AtMost: "<=", AtLeast: ">=", Arrow: "->",
	Open: "(", Close: ")", Comma: ",", Semi: ";", Equal: "=", Less: "<", Greater: ">",
	Plus: "+", Minus: "-", Times: "*", Over: "/", Rest: "%",
}

// Text tells how a word of the grammar's own, or a sign, is written. (Other kinds: the empty text.)
func Text(kind int) string {
	if kind < 0 || kind >= len(texts) {
		return ""
	}
	return texts[kind]
}
