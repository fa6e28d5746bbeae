package front_test

import (
	"math/rand"
	"strconv"
	"strings"
	"testing"

	"slim/api"
	"slim/front"
	"slim/parts"
	"slim/words"
)

// term: a type as P7 writes it down; one without a head is unknown.
type term struct {
	head string // int, bool, unit, array, tuple, function
	kids []*term
}

// demanded: two types are one, at a place; or a name is unbound there.
type demanded struct {
	at      int
	a       *term
	b       *term
	unbound bool
}

type told struct {
	name string
	at   int
	kind *term
}

// lister writes all of a text's demands down, and solves none of them.
type lister struct {
	tree    parts.Tree
	demands []demanded
	names   []told
}

func plain(head string) *term { return &term{head: head} }

func (l *lister) bind(n int, kinds ...*term) []told {
	part := l.tree.Part(n)
	out := []told{}
	for i, name := range part.Names {
		out = append(out, told{name, part.At, kinds[i]})
	}
	l.names = append(l.names, out...)
	return out
}

func with(scope []told, more []told) []told { return append(append([]told{}, scope...), more...) }

func (l *lister) unknowns(count int) []*term {
	out := []*term{}
	for i := 0; i < count; i++ {
		out = append(out, &term{})
	}
	return out
}

func (l *lister) list(n int, scope []told) *term {
	part := l.tree.Part(n)
	kid := func(i int, scope []told) *term { return l.list(l.tree.Kid(n, i), scope) }
	demand := func(i int, kind *term, wanted *term) {
		l.demands = append(l.demands, demanded{at: l.tree.Part(l.tree.Kid(n, i)).At, a: kind, b: wanted})
	}
	is := func(i int, wanted *term) { demand(i, kid(i, scope), wanted) }
	switch part.Kind {
	case parts.Num, parts.Read:
		return plain("int")
	case parts.True, parts.False:
		return plain("bool")
	case parts.Unit:
		return plain("unit")
	case parts.Name:
		for i := len(scope) - 1; i >= 0; i-- {
			if scope[i].name == part.Names[0] {
				return scope[i].kind
			}
		}
		l.demands = append(l.demands, demanded{at: part.At, unbound: true})
		return &term{}
	case parts.Neg:
		is(0, plain("int"))
		return plain("int")
	case parts.Not:
		is(0, plain("bool"))
		return plain("bool")
	case parts.Sum, parts.Prod, parts.Cmp:
		is(0, plain("int"))
		is(1, plain("int"))
		if part.Kind == parts.Cmp {
			return plain("bool")
		}
		return plain("int")
	case parts.Seq:
		is(0, plain("unit"))
		return kid(1, scope)
	case parts.If:
		is(0, plain("bool"))
		kind := kid(1, scope)
		is(2, kind)
		return kind
	case parts.Let:
		kind := &term{}
		bound := l.bind(n, kind)
		is(0, kind)
		return kid(1, with(scope, bound))
	case parts.LetTuple:
		kinds := l.unknowns(len(part.Names))
		bound := l.bind(n, kinds...)
		is(0, &term{"tuple", kinds})
		return kid(1, with(scope, bound))
	case parts.LetRec:
		kinds := l.unknowns(len(part.Names) + 1)
		itself := &term{"function", kinds[1:]}
		bound := l.bind(n, append([]*term{itself}, kinds[1:len(part.Names)]...)...)
		demand(0, kid(0, with(scope, bound)), kinds[len(part.Names)])
		return kid(1, with(scope, bound[:1]))
	case parts.Fun:
		kinds := l.unknowns(len(part.Names))
		bound := l.bind(n, kinds...)
		return &term{"function", append(kinds, kid(0, with(scope, bound)))}
	case parts.Call, parts.Tuple:
		kinds := []*term{}
		for i := range part.Kids {
			kinds = append(kinds, kid(i, scope))
		}
		if part.Kind == parts.Tuple {
			return &term{"tuple", kinds}
		}
		answer := &term{}
		wanted := &term{"function", append(append([]*term{}, kinds[1:]...), answer)}
		l.demands = append(l.demands, demanded{at: part.At, a: kinds[0], b: wanted})
		return answer
	case parts.Index, parts.Put:
		cell := &term{}
		is(0, &term{"array", []*term{cell}})
		is(1, plain("int"))
		if part.Kind == parts.Index {
			return cell
		}
		is(2, cell)
		return plain("unit")
	case parts.Array:
		is(0, plain("int"))
		return &term{"array", []*term{kid(1, scope)}}
	case parts.Len:
		is(0, &term{"array", []*term{{}}})
		return plain("int")
	case parts.Print:
		is(0, plain("int"))
		return plain("unit")
	}
	return nil
}

// solver: what the unknown types are known to be. It goes wherever a type leads, so that it is of use for small types alone.
type solver map[*term]*term

func (s solver) known(t *term) *term {
	for s[t] != nil {
		t = s[t]
	}
	return t
}

func (s solver) occurs(t *term, in *term) bool {
	in = s.known(in)
	if in == t {
		return true
	}
	for _, kid := range in.kids {
		if s.occurs(t, kid) {
			return true
		}
	}
	return false
}

func (s solver) solve(a *term, b *term) bool {
	a, b = s.known(a), s.known(b)
	if a == b {
		return true
	}
	if b.head == "" {
		a, b = b, a
	}
	if a.head == "" {
		if s.occurs(a, b) {
			return false
		}
		s[a] = b
		return true
	}
	if a.head != b.head || len(a.kids) != len(b.kids) {
		return false
	}
	for i := range a.kids {
		if !s.solve(a.kids[i], b.kids[i]) {
			return false
		}
	}
	return true
}

func (s solver) written(t *term) string {
	t = s.known(t)
	kids := []string{}
	for _, kid := range t.kids {
		kids = append(kids, s.written(kid))
	}
	switch t.head {
	case "":
		return "int"
	case "array":
		return kids[0] + " array"
	case "tuple":
		return "(" + strings.Join(kids, "*") + ")"
	case "function":
		last := len(kids) - 1
		return "(" + strings.Join(kids[:last], ",") + "->" + kids[last] + ")"
	}
	return t.head
}

func (s solver) count(t *term) int {
	count := 1
	for _, kid := range s.known(t).kids {
		count += s.count(kid)
	}
	return count
}

// byDemands answers as P7 tells: all demands are listed, then met one behind the other.
func byDemands(tree parts.Tree) (string, api.Errno, int) {
	l := &lister{tree: tree}
	kind := l.list(tree.Root(), nil)
	l.demands = append(l.demands, demanded{at: tree.Part(tree.Root()).At, a: kind, b: plain("int")})
	s := solver{}
	for _, d := range l.demands {
		if d.unbound {
			return "", api.ErrUnbound, d.at
		}
		if !s.solve(d.a, d.b) {
			return "", api.ErrType, d.at
		}
	}
	text := ""
	for _, name := range l.names {
		if s.count(name.kind) > 40 {
			return "", api.ErrBig, name.at
		}
		text += name.name + ":" + s.written(name.kind) + "\n"
	}
	return text, api.OK, 0
}

// typist makes texts of a wanted type at random.
type typist struct {
	r     *rand.Rand
	scope []told
	busy  bool // with loops, longer lists and all signs
}

var someNames = strings.Fields("a b f x x")

func (y *typist) name() string { return someNames[y.r.Intn(len(someNames))] }

// some tells a number from least on, not much above it.
func (y *typist) some(least int, most int) int {
	if y.busy && y.r.Intn(4) == 0 {
		return least + y.r.Intn(most-least+1)
	}
	return least + y.r.Intn(2)
}

func (y *typist) kinds(count int) []*term {
	out := []*term{}
	for len(out) < count {
		out = append(out, y.kind(1))
	}
	return out
}

func (y *typist) kind(deep int) *term {
	count := []int{0, 0, 0, 0, 0, 1, y.some(2, 6), y.some(2, 5)}
	head := []string{"int", "int", "int", "bool", "unit", "array", "tuple", "function"}
	i := y.r.Intn(len(head))
	if deep <= 0 {
		i = y.r.Intn(5)
	}
	out := plain(head[i])
	for len(out.kids) < count[i] {
		out.kids = append(out.kids, y.kind(deep-1))
	}
	return out
}

// innermost tells a name in sight that is of a type: the empty one, if there is none.
func (y *typist) innermost(kind *term) string {
	found := []string{}
	hidden := map[string]bool{}
	for i := len(y.scope) - 1; i >= 0; i-- {
		one := y.scope[i]
		if !hidden[one.name] && (solver{}).written(one.kind) == (solver{}).written(kind) {
			found = append(found, one.name)
		}
		hidden[one.name] = true
	}
	if len(found) == 0 {
		return ""
	}
	return found[y.r.Intn(len(found))]
}

// within makes a text with more names in sight.
func (y *typist) within(more []told, kind *term, deep int) string {
	before := y.scope
	y.scope = with(before, more)
	out := y.text(kind, deep)
	y.scope = before
	return out
}

func (y *typist) bound(kinds []*term) ([]told, string) {
	out := []told{}
	list := []string{}
	for _, kind := range kinds {
		out = append(out, told{name: y.name(), kind: kind})
		list = append(list, out[len(out)-1].name)
	}
	return out, strings.Join(list, " ")
}

func (y *typist) text(kind *term, deep int) string {
	name := y.innermost(kind)
	if name != "" && y.r.Intn(2) == 0 {
		return name
	}
	if deep <= 0 || y.r.Intn(5) == 0 {
		return y.made(kind, deep-1)
	}
	deep--
	of := func(kind *term) string { return y.text(kind, deep) }
	integer := plain("int")
	switch y.r.Intn(9) {
	case 0:
		other := y.kind(2)
		names, list := y.bound([]*term{other})
		return "(let " + list + " = " + of(other) + " in " + y.within(names, kind, deep) + ")"
	case 1:
		if y.busy && y.r.Intn(2) == 0 {
			return y.loop(kind, deep)
		}
		f := &term{"function", append(y.kinds(y.some(1, 4)), kind)}
		names, list := y.bound(f.kids[:len(f.kids)-1])
		itself := told{name: y.name(), kind: f}
		body := y.within(append([]told{itself}, names...), kind, deep)
		return "(let rec " + itself.name + " " + list + " = " + body + " in " + y.within([]told{itself}, kind, deep) + ")"
	case 2:
		other := &term{"tuple", y.kinds(y.some(2, 6))}
		names, list := y.bound(other.kids)
		return "(let ( " + strings.ReplaceAll(list, " ", " , ") + " ) = " + of(other) + " in " + y.within(names, kind, deep) + ")"
	case 3:
		return "(if " + of(plain("bool")) + " then " + of(kind) + " else " + of(kind) + ")"
	case 4:
		return "(" + of(plain("unit")) + " ; " + of(kind) + ")"
	case 5, 6:
		f := &term{"function", append(y.kinds(y.some(1, 4)), kind)}
		out := "(" + of(f)
		for _, kid := range f.kids[:len(f.kids)-1] {
			out += " " + of(kid)
		}
		return out + ")"
	case 7:
		return of(&term{"array", []*term{kind}}) + " .( " + of(integer) + " )"
	}
	return y.made(kind, deep)
}

// loop makes a function that calls itself some times, last or not.
func (y *typist) loop(kind *term, deep int) string {
	carried := y.kind(1)
	more := []told{{name: "f", kind: &term{"function", []*term{plain("int"), carried, kind}}}, {name: "n", kind: plain("int")}, {name: "x", kind: carried}}
	end := y.within(more, kind, deep-1)
	again := "(f (n - 1) " + y.within(more, carried, deep-1) + ")"
	switch y.r.Intn(4) {
	case 0:
		names, list := y.bound([]*term{kind})
		again = "(let " + list + " = " + again + " in " + y.within(append(more, names...), kind, deep-1) + ")"
	case 1:
		again = "(" + y.within(more, plain("unit"), deep-1) + " ; " + again + ")"
	}
	start := "f " + strconv.Itoa(y.r.Intn(12)) + " " + y.within(more[:1], carried, deep-1)
	return "(let rec f n x = (if n < 1 then " + end + " else " + again + ") in " + start + ")"
}

// signed makes a text of two numbers and a sign, or of an operator.
func (y *typist) signed(of func(*term) string, signs string) string {
	list := strings.Fields(signs)
	return "(" + of(plain("int")) + " " + list[y.r.Intn(len(list))] + " " + of(plain("int")) + ")"
}

// made makes a text in a way that its type alone has.
func (y *typist) made(kind *term, deep int) string {
	of := func(kind *term) string {
		name := y.innermost(kind)
		if deep <= 0 && name != "" {
			return name
		}
		return y.text(kind, deep-1)
	}
	integer := plain("int")
	switch kind.head {
	case "bool":
		if deep <= 0 {
			return "true"
		}
		if y.busy && y.r.Intn(2) == 0 {
			return y.signed(of, "= <> < <= > >=")
		}
		return []string{"(not " + of(kind) + ")", "(" + of(integer) + " < " + of(integer) + ")", "false"}[y.r.Intn(3)]
	case "unit":
		if deep <= 0 {
			return "( )"
		}
		cell := y.kind(1)
		list := &term{"array", []*term{cell}}
		return []string{"(print " + of(integer) + ")", "(put " + of(list) + " " + of(integer) + " " + of(cell) + ")", "( )"}[y.r.Intn(3)]
	case "array":
		return "(array " + of(integer) + " " + of(kind.kids[0]) + ")"
	case "tuple":
		list := []string{}
		for _, kid := range kind.kids {
			list = append(list, of(kid))
		}
		return "( " + strings.Join(list, " , ") + " )"
	case "function":
		last := len(kind.kids) - 1
		names, list := y.bound(kind.kids[:last])
		return "(fun " + list + " -> " + y.within(names, kind.kids[last], deep-1) + ")"
	}
	if deep <= 0 {
		return strconv.Itoa(y.r.Intn(9))
	}
	if y.busy && y.r.Intn(2) == 0 {
		return y.signed(of, "+ - * / %")
	}
	list := &term{"array", []*term{y.kind(1)}}
	return []string{"(" + of(kind) + " + " + of(kind) + ")", "(- " + of(kind) + ")", "(len " + of(list) + ")", "read"}[y.r.Intn(4)]
}

// confused puts other operands in some places of a text.
func confused(r *rand.Rand, src string) string {
	list := strings.Fields(strings.NewReplacer("(", " ( ", ")", " ) ", ".(", " .( ").Replace(src))
	places := []int{}
	for i, word := range list {
		if strings.Contains(" a b f x true false read 0 1 2 3 4 5 6 7 8 ", " "+word+" ") {
			places = append(places, i)
		}
	}
	for i := r.Intn(5); i > 0 && len(places) > 0; i-- {
		list[places[r.Intn(len(places))]] = strings.Fields("a b f x a b f x true read")[r.Intn(10)]
	}
	return strings.Join(list, " ")
}

// loose makes texts of functions, calls and the like, whose types may be open or endless.
func loose(r *rand.Rand, names []string, deep int) string {
	of := func(more ...string) string { return loose(r, append(append([]string{}, names...), more...), deep-1) }
	name := someNames[r.Intn(len(someNames))]
	if deep <= 0 && len(names) == 0 {
		return "1"
	}
	if deep <= 0 {
		return names[r.Intn(len(names))]
	}
	switch r.Intn(11) {
	case 0, 1:
		return "(fun " + name + " -> " + of(name) + ")"
	case 2:
		return "(fun " + name + " f -> " + of(name, "f") + ")"
	case 3:
		return "(let " + name + " = " + of() + " in " + of(name) + ")"
	case 4:
		return "(let ( " + name + " , a ) = " + of() + " in " + of(name, "a") + ")"
	case 5:
		return "(let rec f " + name + " = " + of("f", name) + " in " + of("f") + ")"
	case 6:
		return "(if true then " + of() + " else " + of() + ")"
	case 7:
		return "( " + of() + " , " + of() + " )"
	case 8:
		return []string{"(array 1 " + of() + ")", of() + " .( 0 )"}[r.Intn(2)]
	}
	return "(" + of() + " " + of() + ")"
}

// likeDemands tells how Infer answers, if it is as the demands ask for.
func likeDemands(t *testing.T, src string) (string, api.Errno) {
	list, _, _ := words.Split(src)
	tree, wrong, _ := parts.Parse(list, api.MaxNest)
	if wrong != api.OK {
		return "", wrong
	}
	want, wantErr, place := byDemands(tree)
	text, err, at := new(front.Compiler).Infer(src)
	if text != want || err != wantErr || at != place {
		t.Fatalf("P7: Infer(%q) = %q, %d, %d, want %q, %d, %d", src, text, err, at, want, wantErr, place)
	}
	return text, err
}

func TestInferByDemands(t *testing.T) {
	r := rand.New(rand.NewSource(8))
	met := map[api.Errno]int{}
	named := 0
	for n := 0; n < 40000; n++ {
		y := &typist{r: r}
		src := confused(r, y.text(plain("int"), 1+r.Intn(5)))
		if len(src) > api.MaxSrc {
			continue
		}
		text, err := likeDemands(t, src)
		met[err]++
		named += strings.Count(text, "\n")
	}
	if met[api.OK] < 5000 || met[api.ErrType] < 2000 || met[api.ErrUnbound] < 2000 || named < 10000 {
		t.Errorf("too few of a kind were tried: %v, %d names", met, named)
	}
}

func TestInferLoose(t *testing.T) {
	r := rand.New(rand.NewSource(10))
	met := map[api.Errno]int{}
	for n := 0; n < 40000; n++ {
		src := "let x = " + loose(r, nil, 1+r.Intn(4)) + " in 1"
		if len(src) > api.MaxSrc {
			continue
		}
		_, err := likeDemands(t, src)
		met[err]++
	}
	if met[api.OK] < 5000 || met[api.ErrType] < 5000 {
		t.Errorf("too few of a kind were tried: %v", met)
	}
}

// Texts that are well typed by the way they are made are taken.
func TestInferTakes(t *testing.T) {
	r := rand.New(rand.NewSource(9))
	taken := 0
	for n := 0; n < 20000; n++ {
		y := &typist{r: r}
		src := y.text(plain("int"), 1+r.Intn(5))
		_, err, at := new(front.Compiler).Infer(src)
		switch err {
		case api.OK:
			taken++
		case api.ErrLong, api.ErrNest, api.ErrBig:
		default:
			t.Fatalf("P7: Infer(%q) = %d, %d", src, err, at)
		}
	}
	if taken < 5000 {
		t.Errorf("only %d texts were taken", taken)
	}
}
