package parts

// The kinds of parts.
const (
	None = iota
	Num
	True
	False
	Read
	Name
	Unit
	Tuple
	Let
	LetRec
	LetTuple
	If
	Fun
	Neg
	Not
	Prod
	Sum
	Cmp
	Seq
	Call
	Index
	Print
	Len
	Array
	Put
)

// Part: an expression of a text, and its place.
type Part struct {
	Kind  int
	At    int
	Word  int      // the kind of the sign, or of the grammar's own word, that it is made by, if there is one
	Num   int      // of a number
	Names []string // of a name: itself; else the names that it binds (LetRec: the function, then its parameters)
	Kids  []int    // its own parts, from the left to the right
}

// Tree: a text's parts, each behind its own parts; the last one is the whole text.
type Tree struct {
	Parts []Part
}

// Root tells the number of the part that is the whole text.
func (t Tree) Root() int {
	return len(t.Parts) - 1
}

// Part tells a part by its number: one of the kind None, if there is no such part.
func (t Tree) Part(number int) Part {
	if number < 0 || number >= len(t.Parts) {
		return Part{}
	}
	return t.Parts[number]
}

// Kid tells the number of a part's own part: -1, if there is none.
// It is always the lower number, so that a walk down a tree ends.
func (t Tree) Kid(number int, i int) int {
	kids := t.Part(number).Kids
	if i < 0 || i >= len(kids) || kids[i] >= number {
		return -1
	}
	return kids[i]
}
