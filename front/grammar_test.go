package front_test

import (
	"math/rand"
	"reflect"
	"strings"
	"testing"

	"slim/api"
	"slim/front"
	"slim/parts"
	"slim/words"
)

// The grammar of P4 as it is written there, the counts spelled out: symbols that begin with a capital have rules of their own.
var grammar = map[string][]string{
	"Expr": {"let x = Expr in Expr", "let rec x Params = Expr in Expr", "let ( Names ) = Expr in Expr",
		"if Expr then Expr else Expr", "fun Params -> Expr", "Cmp", "Cmp ; Expr"},
	"Params": {"x", "x x", "x x x", "x x x x"},
	"Names":  {"x , x", "x , x , x", "x , x , x , x", "x , x , x , x , x", "x , x , x , x , x , x"},
	"Cmp":    {"Sum", "Sum = Sum", "Sum <> Sum", "Sum < Sum", "Sum <= Sum", "Sum > Sum", "Sum >= Sum"},
	"Sum":    {"Prod", "Sum + Prod", "Sum - Prod"},
	"Prod":   {"Un", "Prod * Un", "Prod / Un", "Prod % Un"},
	"Un":     {"- Un", "not Un", "Call"},
	"Call": {"print Opd", "len Opd", "array Opd Opd", "put Opd Opd Opd",
		"Opd", "Opd Opd", "Opd Opd Opd", "Opd Opd Opd Opd", "Opd Opd Opd Opd Opd"},
	"Opd":  {"Atom", "Opd .( Expr )"},
	"Atom": {"1", "true", "false", "read", "x", "( )", "( Expr )", "( Members )"},
	"Members": {"Expr , Expr", "Expr , Expr , Expr", "Expr , Expr , Expr , Expr", "Expr , Expr , Expr , Expr , Expr",
		"Expr , Expr , Expr , Expr , Expr , Expr"},
}

var allWords = strings.Fields("let rec in if then else fun not true false read print len array put x 1 " +
	".( <> <= >= -> ( ) , ; = < > + - * / %")

func isRule(symbol string) bool { return grammar[symbol] != nil }

// item: a rule's right side, how much of it is read, and the place where it began.
type item struct {
	left  string
	right string
	done  int
	begin int
}

func (i item) next() string {
	right := strings.Fields(i.right)
	if i.done == len(right) {
		return ""
	}
	return right[i.done]
}

// closed adds all items that follow from those of a place (Earley's way; no rule is empty).
func closed(sets [][]item, set []item, at int) []item {
	seen := map[item]bool{}
	out := []item{}
	add := func(i item) {
		if !seen[i] {
			seen[i] = true
			out = append(out, i)
		}
	}
	for _, i := range set {
		add(i)
	}
	for k := 0; k < len(out); k++ {
		now := out[k]
		next := now.next()
		if isRule(next) {
			for _, right := range grammar[next] {
				add(item{next, right, 0, at})
			}
		}
		if next == "" && now.begin < at {
			for _, up := range sets[now.begin] {
				if up.next() == now.left {
					add(item{up.left, up.right, up.done + 1, up.begin})
				}
			}
		}
	}
	return out
}

// judged tells the error of words by trying the grammar in all ways at once, and the word's number.
func judged(list []string) (api.Errno, int) {
	sets := [][]item{closed(nil, []item{{"Text", "Expr", 0, 0}}, 0)}
	open := 0
	for at, word := range list {
		moved := []item{}
		for _, i := range sets[at] {
			if i.next() == word {
				moved = append(moved, item{i.left, i.right, i.done + 1, i.begin})
			}
		}
		if len(moved) == 0 {
			return api.ErrSyntax, at
		}
		if word == "(" || word == ".(" {
			open++
		}
		if word == ")" {
			open--
		}
		if open > 12 {
			return api.ErrNest, at
		}
		sets = append(sets, closed(sets, moved, at+1))
	}
	for _, i := range sets[len(list)] {
		if i.left == "Text" && i.next() == "" {
			return api.OK, 0
		}
	}
	return api.ErrSyntax, len(list)
}

// derived makes words of a symbol at random, the simplest ones as soon as room (how many rules may still be taken) is spent.
func derived(r *rand.Rand, symbol string, room *int) []string {
	if !isRule(symbol) {
		return []string{symbol}
	}
	rules := grammar[symbol]
	right := rules[r.Intn(len(rules))]
	*room--
	if *room < 0 || r.Intn(3) == 0 {
		right = simplest(symbol)
	}
	out := []string{}
	for _, s := range strings.Fields(right) {
		out = append(out, derived(r, s, room)...)
	}
	return out
}

func simplest(symbol string) string {
	switch symbol {
	case "Expr":
		return "Cmp"
	case "Un":
		return "Call"
	case "Call":
		return "Opd"
	case "Atom":
		return "x"
	}
	return grammar[symbol][0]
}

func anyText(r *rand.Rand) []string {
	room := r.Intn(150)
	return derived(r, "Expr", &room)
}

// changed leaves out, adds or changes a word, or opens and closes brackets.
func changed(r *rand.Rand, list []string) []string {
	at := r.Intn(len(list))
	word := allWords[r.Intn(len(allWords))]
	out := append([]string{}, list[:at]...)
	switch r.Intn(4) {
	case 0:
		return append(out, list[at+1:]...)
	case 1:
		return append(append(out, word), list[at+1:]...)
	case 2:
		return append(append(out, word), list[at:]...)
	}
	for i := r.Intn(15); i > 0; i-- {
		out = append(out, "(")
	}
	return append(out, list[at:]...)
}

func TestSyntaxByGrammar(t *testing.T) {
	r := rand.New(rand.NewSource(4))
	met := map[api.Errno]int{}
	for n := 0; n < 6000; n++ {
		list := anyText(r)
		for i := r.Intn(4); i > 0 && len(list) > 0; i-- {
			list = changed(r, list)
		}
		src := strings.Join(list, " ")
		if len(src) > api.MaxSrc || len(list) > 60 {
			continue
		}
		want, number := judged(list)
		place := 0
		if want != api.OK {
			place = len(strings.Join(append(append([]string{}, list[:number]...), ""), " "))
		}
		if want != api.OK && number == len(list) {
			place = len(src)
		}
		_, err, at := new(front.Compiler).Show(src)
		if err != want || at != place {
			t.Fatalf("P4: Show(%q) = %d, %d, want %d at %d", src, err, at, want, place)
		}
		met[err]++
	}
	if met[api.OK] < 100 || met[api.ErrSyntax] < 100 || met[api.ErrNest] < 20 {
		t.Errorf("too few of a kind were tried: %v", met)
	}
}

// bracketed writes a part's words with brackets around every part that may have them.
func bracketed(tree parts.Tree, n int) []string {
	part := tree.Part(n)
	kid := func(i int) []string { return bracketed(tree, tree.Kid(n, i)) }
	all := [][]string{}
	for i := range part.Kids {
		all = append(all, kid(i))
	}
	out := []string{}
	put := func(list ...string) { out = append(out, list...) }
	join := func(sign string) {
		for i, k := range all {
			if i > 0 && sign != "" {
				put(sign)
			}
			put(k...)
		}
	}
	word := words.Text(part.Word)
	switch part.Kind {
	case parts.Num:
		return []string{"1"}
	case parts.Name:
		return part.Names
	case parts.True, parts.False, parts.Read:
		return []string{word}
	case parts.Unit:
		return []string{"(", ")"}
	}
	put("(")
	switch part.Kind {
	case parts.Tuple:
		put("(")
		join(",")
		put(")")
	case parts.Let, parts.LetRec, parts.LetTuple:
		put("let")
		if part.Kind == parts.LetRec {
			put("rec")
		}
		names := part.Names
		if part.Kind == parts.LetTuple {
			names = strings.Fields("( " + strings.Join(names, " , ") + " )")
		}
		put(names...)
		put("=")
		put(all[0]...)
		put("in")
		put(all[1]...)
	case parts.If:
		put("if")
		put(all[0]...)
		put("then")
		put(all[1]...)
		put("else")
		put(all[2]...)
	case parts.Fun:
		put("fun")
		put(part.Names...)
		put("->")
		put(all[0]...)
	case parts.Index:
		join(".(")
		put(")")
	case parts.Prod, parts.Sum, parts.Cmp, parts.Seq:
		join(word)
	case parts.Call:
		join("")
	default:
		put(word)
		join("")
	}
	put(")")
	return out
}

// placeless parses words, however many brackets are open, and leaves the places out of the parts.
func placeless(list []string) (parts.Tree, bool) {
	found := []words.Word{}
	for _, word := range append(append([]string{}, list...), "") {
		one, err, _ := words.Split(word)
		if err != api.OK {
			return parts.Tree{}, false
		}
		found = append(found, one[0])
	}
	tree, err, _ := parts.Parse(found, 1000)
	for i := range tree.Parts {
		tree.Parts[i].At = 0
	}
	return tree, err == api.OK
}

// without leaves out the bracket at a place and the one that closes it.
func without(list []string, at int) []string {
	out := append([]string{}, list[:at]...)
	open := 1
	for i := at + 1; i < len(list); i++ {
		if list[i] == "(" || list[i] == ".(" {
			open++
		}
		if list[i] == ")" {
			open--
			if open == 0 {
				return append(append(out, list[at+1:i]...), list[i+1:]...)
			}
		}
	}
	return list
}

// joined writes words behind each other, with a blank where two would be others without it.
func joined(list []string) string {
	out := ""
	for i, word := range list {
		if i > 0 {
			both, err, _ := words.Split(list[i-1] + word)
			if err != api.OK || len(both) != 3 || both[1].At != len(list[i-1]) {
				out += " "
			}
		}
		out += word
	}
	return out
}

// shortest goes the way that P6 tells, word for word.
func shortest(list []string) string {
	tree, _ := placeless(list)
	list = bracketed(tree, tree.Root())
	for at := 0; at < len(list); {
		if list[at] == "(" {
			less := without(list, at)
			found, ok := placeless(less)
			if ok && reflect.DeepEqual(found, tree) {
				list = less
				continue
			}
		}
		at++
	}
	return joined(list)
}

func TestShowByDefinition(t *testing.T) {
	r := rand.New(rand.NewSource(6))
	tried := 0
	for n := 0; n < 2000; n++ {
		list := anyText(r)
		src := strings.Join(list, " ")
		if len(src) > api.MaxSrc || len(list) > 100 {
			continue
		}
		text, err, at := new(front.Compiler).Show(src)
		if err == api.ErrNest {
			continue
		}
		want := shortest(list)
		if text != want || err != api.OK || at != 0 {
			t.Fatalf("P6: Show(%q) = %q, %d, %d, want %q", src, text, err, at, want)
		}
		tried++
	}
	if tried < 500 {
		t.Errorf("only %d texts were tried", tried)
	}
}
