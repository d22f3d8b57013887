package tests

import (
	"bytes"
	"math/rand"
	"slices"
	"strings"
	"testing"

	"loop.example/graphpatterns/impl"
)

// The plain functions are written without chapter 12, by the document, for
// testing it. They have codes as strings.

// bytesOf returns the string of some bytes.
func bytesOf(nums ...int) string {
	var code []byte
	for _, num := range nums {
		code = append(code, byte(num))
	}
	return string(code)
}

// codeOfText returns the code of a text of up to 255 bytes.
func codeOfText(text string) string { return bytesOf(len(text)) + text }

// mostBytes is more than the code of any pattern has.
const mostBytes = 1 << 13

// codeWriter puts the code of something together, up to mostBytes, since parts of
// invalid patterns and expressions can be within each other without an end.
type codeWriter struct{ code strings.Builder }

func (w *codeWriter) put(text string) { w.code.WriteString(text) }

func (w *codeWriter) expr(e impl.Expr) {
	w.put(bytesOf(e.Op))
	if e.Op == impl.ExprAtom {
		w.put(codeOfText(e.Atom))
	}
	for _, kid := range e.Kids {
		if w.code.Len() < mostBytes {
			w.expr(kid)
		}
	}
}

func (w *codeWriter) pat(p impl.Pat) {
	w.put(bytesOf(p.Op))
	switch p.Op {
	case impl.PatElem:
		w.put(bytesOf(p.Elem.Dir) + codeOfText(p.Elem.Var))
		w.expr(p.Elem.Labels)
		w.expr(p.Elem.Cond)
	case impl.PatRep:
		w.put(bytesOf(p.Lo, p.Hi+1))
	default:
		w.put(bytesOf(len(p.Kids)))
	}
	for _, kid := range p.Kids {
		if w.code.Len() < mostBytes {
			w.pat(kid)
		}
	}
}

// codeOfPat returns the code of a pattern, valid or not, or the first bytes of it
// if there are more than mostBytes.
func codeOfPat(p impl.Pat) string {
	var w codeWriter
	w.pat(p)
	return w.code.String()
}

// codeOfGraph returns the code of a graph, valid or not.
func codeOfGraph(g impl.Graph) string {
	code := bytesOf(len(g.Nodes))
	for _, n := range g.Nodes {
		code += codeOfText(n.Label) + bytesOf(n.Num)
	}
	code += bytesOf(len(g.Edges))
	for _, e := range g.Edges {
		code += bytesOf(e.From, e.To) + codeOfText(e.Label) + bytesOf(e.Num)
	}
	return code
}

// codeReader takes the code of something from the front of a string. It panics
// with endsEarly, by which readCode finds that there is nothing with this code.
type codeReader struct{ rest string }

type endsEarly struct{}

func (r *codeReader) text(length int) string {
	if length > len(r.rest) {
		panic(endsEarly{})
	}
	text := r.rest[:length]
	r.rest = r.rest[length:]
	return text
}

func (r *codeReader) number() int { return int(r.text(1)[0]) }

func (r *codeReader) expr() impl.Expr {
	e := impl.Expr{Op: r.number()}
	if e.Op == impl.ExprAtom {
		e.Atom = r.text(r.number())
	}
	for range map[int]int{impl.ExprNot: 1, impl.ExprAnd: 2, impl.ExprOr: 2}[e.Op] {
		e.Kids = append(e.Kids, r.expr())
	}
	return e
}

func (r *codeReader) pat() impl.Pat {
	p := impl.Pat{Op: r.number()}
	kids := 0
	switch p.Op {
	case impl.PatElem:
		p.Elem.Dir = r.number()
		p.Elem.Node = p.Elem.Dir == 0
		p.Elem.Var = r.text(r.number())
		p.Elem.Labels = r.expr()
		p.Elem.Cond = r.expr()
	case impl.PatRep:
		p.Lo = r.number()
		p.Hi = r.number() - 1
		kids = 1
	default:
		kids = r.number()
	}
	for range kids {
		p.Kids = append(p.Kids, r.pat())
	}
	return p
}

func (r *codeReader) graph() impl.Graph {
	var g impl.Graph
	for range r.number() {
		g.Nodes = append(g.Nodes, impl.Node{Label: r.text(r.number()), Num: r.number()})
	}
	for range r.number() {
		e := impl.Edge{From: r.number(), To: r.number()}
		e.Label = r.text(r.number())
		e.Num = r.number()
		g.Edges = append(g.Edges, e)
	}
	return g
}

// readCode returns what take takes, and true, if it takes a whole code.
func readCode[T any](code string, take func(r *codeReader) T) (got T, ok bool) {
	defer func() {
		if x := recover(); x != nil && x != any(endsEarly{}) {
			panic(x)
		}
	}()
	r := &codeReader{code}
	got = take(r)
	return got, r.rest == ""
}

// readPatCode returns the pattern with a code that is not long, and true, or
// false if there is none.
func readPatCode(code string) (impl.Pat, bool) {
	p, ok := readCode(code, (*codeReader).pat)
	if !ok || !plainPatValid(p) {
		return impl.Pat{}, false
	}
	return p, true
}

// readGraphCode returns the graph with a code, and true, or false if there is none.
func readGraphCode(code string) (impl.Graph, bool) {
	g, ok := readCode(code, (*codeReader).graph)
	if !ok || !impl.GraphValid(g) {
		return impl.Graph{}, false
	}
	return g, true
}

// plainSum returns the check sum of a code: the first number counts all bytes
// once, and the second one each as often as there are bytes from it on.
func plainSum(code string) int {
	once, often := 1, len(code)
	for i := range len(code) {
		once += int(code[i])
		often += int(code[i]) * (len(code) - i)
	}
	return often%251*256 + once%251
}

// plainSealed returns a code with its check sum behind it.
func plainSealed(code string) string {
	sum := plainSum(code)
	return code + bytesOf(sum>>8, sum&255)
}

// expectCode fails unless a function has returned this code, and true.
func expectCode(t *testing.T, what string, got []byte, ok bool, want string) {
	t.Helper()
	if !ok || string(got) != want {
		t.Errorf("%.200s = %.300q, %v, not %.300q", what, got, ok, want)
	}
}

// expectNoCode fails unless a function has returned no bytes, and false.
func expectNoCode(t *testing.T, what string, got []byte, ok bool) {
	t.Helper()
	if ok || len(got) != 0 {
		t.Errorf("%.200s = %.300q, %v", what, got, ok)
	}
}

// expectPatDecoding fails unless DecodePat finds what the document says for a
// code that is not long, and reports whether this is a pattern.
func expectPatDecoding(t *testing.T, code string) bool {
	t.Helper()
	want, wanted := readPatCode(code)
	p, ok := impl.DecodePat([]byte(code))
	if ok != wanted || !plainPatSame(p, want) {
		t.Fatalf("DecodePat(%q) = %v, %v, not %v, %v", code, p, ok, want, wanted)
	}
	if ok && codeOfPat(p) != code {
		t.Fatalf("DecodePat(%q) is the pattern of %q", code, codeOfPat(p))
	}
	return ok
}

// expectGraphDecoding fails unless DecodeGraph finds what the document says, and
// reports whether this is a graph.
func expectGraphDecoding(t *testing.T, code string) bool {
	t.Helper()
	want, wanted := readGraphCode(code)
	g, ok := impl.DecodeGraph([]byte(code))
	if ok != wanted || !impl.GraphSame(g, want) {
		t.Fatalf("DecodeGraph(%q) = %v, %v, not %v, %v", code, g, ok, want, wanted)
	}
	if ok && codeOfGraph(g) != code {
		t.Fatalf("DecodeGraph(%q) is the graph of %q", code, codeOfGraph(g))
	}
	return ok
}

// checkPatCode fails unless a valid pattern has its code, and is read back from
// that only, and not from a part of it, nor from more bytes.
func checkPatCode(t *testing.T, what string, p impl.Pat) {
	t.Helper()
	want := codeOfPat(p)
	code, ok := impl.EncodePat(p)
	expectCode(t, "EncodePat of "+what, code, ok, want)
	if back, ok := impl.DecodePat([]byte(want)); !ok || !plainPatSame(back, p) {
		t.Errorf("DecodePat of the code of %.200s = %v, %v", what, back, ok)
	}
	for i := range len(want) {
		back, ok := impl.DecodePat([]byte(want)[:i])
		expectNoPat(t, "DecodePat of "+number(i)+" bytes of "+what, back, ok)
	}
	for _, behind := range []string{"\x00", "\x01", "\xff", "\n", "\x01\x00\x00\x00\x00", want} {
		back, ok := impl.DecodePat([]byte(want + behind))
		expectNoPat(t, "DecodePat of more bytes than those of "+what, back, ok)
	}
}

// checkGraphCode does for a valid graph what checkPatCode does for a pattern.
func checkGraphCode(t *testing.T, g impl.Graph) {
	t.Helper()
	what, want := impl.FormatGraph(g), codeOfGraph(g)
	code, ok := impl.EncodeGraph(g)
	expectCode(t, "EncodeGraph of "+what, code, ok, want)
	if back, ok := impl.DecodeGraph([]byte(want)); !ok || !impl.GraphSame(back, g) {
		t.Errorf("DecodeGraph of the code of %s = %v, %v", what, back, ok)
	}
	for i := range len(want) {
		back, ok := impl.DecodeGraph([]byte(want)[:i])
		expectZero(t, "DecodeGraph of "+number(i)+" bytes of "+what, back, ok)
	}
	for _, behind := range []string{"\x00", "\x01", "\xff", "\n", "\x00\x00\x00\x00", want} {
		back, ok := impl.DecodeGraph([]byte(want + behind))
		expectZero(t, "DecodeGraph of more bytes than those of "+what, back, ok)
	}
}

func TestEncodePat(t *testing.T) {
	for text, want := range map[string]string{
		"()": "\x01\x00\x00\x00\x00", "-[]->": "\x01\x01\x00\x00\x00", "<-[]-": "\x01\x02\x00\x00\x00", "-[]-": "\x01\x03\x00\x00\x00",
		"(x)": "\x01\x00\x01x\x00\x00", "<-[abcdef]-": "\x01\x02\x06abcdef\x00\x00", "(:a)": "\x01\x00\x00\x01\x01a\x00", "(?<5)": "\x01\x00\x00\x00\x01\x02<5", "-[?>10]-": "\x01\x03\x00\x00\x01\x03>10", "(:abcdef?=0)": "\x01\x00\x00\x01\x06abcdef\x01\x02=0",
		"(:%)": "\x01\x00\x00\x02\x00", "(?%)": "\x01\x00\x00\x00\x02", "(:!a)": "\x01\x00\x00\x03\x01\x01a\x00", "(:a&b)": "\x01\x00\x00\x04\x01\x01a\x01\x01b\x00", "(:a|b)": "\x01\x00\x00\x05\x01\x01a\x01\x01b\x00",
		"(x:!(a|bc)&%?<5|!>99)": "\x01\x00\x01x\x04\x03\x05\x01\x01a\x01\x02bc\x02\x05\x01\x02<5\x03\x01\x03>99", "(:a|b|c)": "\x01\x00\x00\x05\x05\x01\x01a\x01\x01b\x01\x01c\x00", "(:a|(b|c))": "\x01\x00\x00\x05\x01\x01a\x05\x01\x01b\x01\x01c\x00",
		"(x)-[e]->": "\x02\x02\x01\x00\x01x\x00\x00\x01\x01\x01e\x00\x00", "()()()": "\x02\x03\x01\x00\x00\x00\x00\x01\x00\x00\x00\x00\x01\x00\x00\x00\x00", "{()|-[]-}": "\x03\x02\x01\x00\x00\x00\x00\x01\x03\x00\x00\x00",
		"{-[]->}*": "\x04\x00\x00\x01\x01\x00\x00\x00", "{-[]->}+": "\x04\x01\x00\x01\x01\x00\x00\x00", "{-[]->}?": "\x04\x00\x02\x01\x01\x00\x00\x00", "{-[]->}^9,": "\x04\x09\x00\x01\x01\x00\x00\x00", "{-[]->}^1,1": "\x04\x01\x02\x01\x01\x00\x00\x00", "{-[]->}^0,9": "\x04\x00\x0a\x01\x01\x00\x00\x00", "{-[]->}^9,9": "\x04\x09\x0a\x01\x01\x00\x00\x00", "{-[]->}^2,3": "\x04\x02\x04\x01\x01\x00\x00\x00",
		"{-[]->|<-[e]-}^2,": "\x04\x02\x00\x03\x02\x01\x01\x00\x00\x00\x01\x02\x01e\x00\x00", "{{-[e]->}+()|()}": "\x03\x02\x02\x02\x04\x01\x00\x01\x01\x01e\x00\x00\x01\x00\x00\x00\x00\x01\x00\x00\x00\x00",
	} {
		p := patOf(t, text)
		if codeOfPat(p) != want {
			t.Errorf("the plain code of %s is %q", text, codeOfPat(p))
		}
		code, ok := impl.EncodePat(p)
		expectCode(t, "EncodePat of "+text, code, ok, want)
		if back, ok := impl.DecodePat([]byte(want)); !ok || impl.FormatPat(back) != text {
			t.Errorf("DecodePat of the code of %s = %v, %v", text, back, ok)
		}
	}
}

func TestCodesOfPats(t *testing.T) {
	for _, x := range patsWithTexts() {
		checkPatCode(t, x.text, x.p)
	}
	for i, x := range elemsWithTexts() {
		checkPatCode(t, x.text, one(x.e))
		if i%20 == 0 {
			checkPatCode(t, x.text+" and others", seq(one(x.e), aNode, alt(one(x.e), one(x.e))))
		}
	}
	for lo := range 10 {
		for hi := max(lo, 1); hi <= 9; hi++ {
			checkPatCode(t, "a repetition to "+number(hi), rep(anEdge, lo, hi))
		}
		checkPatCode(t, "a repetition without a limit", rep(anEdge, lo, -1))
	}
	labelled := one(impl.Elem{Node: true, Var: "x", Labels: or(atom("a"), not(anything)), Cond: atom("<4")})
	for _, p := range manyPats(1000, []impl.Pat{aNode, node("x"), labelled, anEdge, edge("e"), one(impl.Elem{Dir: impl.DirLeft, Cond: and(atom(">7"), anything)})}) {
		checkPatCode(t, impl.FormatPat(p), p)
	}
}

// Empty lists have the same code as those that are nil.
func TestEncodePatOfEmptyLists(t *testing.T) {
	none := impl.Expr{Kids: []impl.Expr{}}
	elem := impl.Elem{Node: true, Labels: impl.Expr{Op: impl.ExprAny, Kids: []impl.Expr{}}, Cond: none}
	leaf := impl.Pat{Op: impl.PatElem, Elem: elem, Kids: []impl.Pat{}}
	p := impl.Pat{Op: impl.PatSeq, Elem: impl.Elem{Labels: none, Cond: none}, Kids: []impl.Pat{leaf, leaf}}
	code, ok := impl.EncodePat(p)
	expectCode(t, "EncodePat", code, ok, "\x02\x02\x01\x00\x00\x02\x00\x01\x00\x00\x02\x00")
}

// checkPatLimit fails unless a pattern has a code that is read back, if it is
// valid, and otherwise has no code, and is not read from the one it would have.
func checkPatLimit(t *testing.T, what string, p impl.Pat, valid bool) {
	t.Helper()
	if valid {
		checkPatCode(t, what, p)
		return
	}
	code, ok := impl.EncodePat(p)
	expectNoCode(t, "EncodePat of "+what, code, ok)
	back, ok := impl.DecodePat([]byte(codeOfPat(p)))
	expectNoPat(t, "DecodePat of "+what, back, ok)
}

func TestCodesOfPatsWithinLimits(t *testing.T) {
	for kids := range 30 {
		same := slices.Repeat([]impl.Pat{anEdge}, kids)
		checkPatLimit(t, number(kids)+" parts of a sequence", seq(same...), kids >= 2 && kids <= 23)
		checkPatLimit(t, number(kids)+" parts of a choice", alt(same...), kids >= 2 && kids <= 23)
		checkPatLimit(t, number(kids)+" repeated parts", rep(seq(same...), 0, 1), kids >= 2 && kids <= 22)
	}
	for _, kids := range []int{24, 100, 254, 255} {
		checkPatLimit(t, number(kids)+" parts", seq(slices.Repeat([]impl.Pat{aNode}, kids)...), false)
	}
	for way := 1; way <= 60; way++ {
		checkPatLimit(t, number(way)+" repetitions on a way", patDeep(way, anEdge, inRep), way <= 10)
		checkPatLimit(t, number(way)+" parts on a way", patDeep(way, anEdge, inRep, inSeq, inAlt), way <= 10)
		checkPatLimit(t, number(way)+" parts of an expression on a way", one(impl.Elem{Node: true, Labels: chained(way-1, atom("a"))}), way <= 12)
		checkPatLimit(t, number(way)+" parts of a condition on a way", one(impl.Elem{Dir: impl.DirAny, Cond: chained(way-1, anything)}), way <= 12)
	}
	for nodes := 1; nodes <= 40; nodes++ {
		checkPatLimit(t, "an expression of "+number(nodes), seq(anEdge, one(impl.Elem{Node: true, Labels: wide(nodes)})), nodes <= 20)
	}
	for length := range 256 {
		letters := strings.Repeat("x", length)
		checkPatLimit(t, "a variable of "+number(length), node(letters), length <= 6)
		checkPatLimit(t, "a label of "+number(length), one(impl.Elem{Dir: impl.DirLeft, Labels: atom(letters)}), length >= 1 && length <= 6)
		checkPatLimit(t, "a bound of "+number(length), one(impl.Elem{Node: true, Cond: atom("<" + letters)}), false)
		checkPatLimit(t, "a bound of "+number(length)+" digits", one(impl.Elem{Node: true, Cond: atom("<" + strings.Repeat("9", length))}), length == 1 || length == 2)
	}
	for bound := range 256 {
		checkPatLimit(t, "a bound of "+number(bound), one(impl.Elem{Dir: impl.DirAny, Cond: atom(">" + number(bound))}), bound <= 99)
	}
	for lo := range 256 {
		for _, hi := range []int{-1, 0, 1, 2, 8, 9, 10, 11, 100, 253, 254} {
			checkPatLimit(t, "times from "+number(lo), rep(anEdge, lo, hi), lo <= 9 && (hi == -1 || hi >= max(lo, 1) && hi <= 9))
		}
	}
}

// The longest code is that of a sequence of 23 elements, which have 10 atoms with
// 9 signs between them and a negation in both expressions, as long as they can be.
func TestTheLongestCodeOfAPat(t *testing.T) {
	labels, cond := not(longExpr(10, "abcdef")), not(longExpr(10, ">10"))
	full := impl.Elem{Var: "abcdef", Labels: labels, Cond: cond, Dir: impl.DirAny}
	for parts := 2; parts <= 24; parts++ {
		p := seq(slices.Repeat([]impl.Pat{one(full)}, parts)...)
		code := codeOfPat(p)
		if want := 2 + parts*(2+7+90+60); len(code) != want {
			t.Fatalf("the code of %d parts has %d bytes", parts, len(code))
		}
		checkPatLimit(t, number(parts)+" long parts", p, parts <= 23)
	}
}

// longExpr returns an expression with so many equal atoms, few of them on a way.
func longExpr(atoms int, text string) impl.Expr {
	if atoms == 1 {
		return atom(text)
	}
	return and(longExpr(atoms/2, text), longExpr(atoms-atoms/2, text))
}

// Patterns that are not valid have no code, and are not read from the one that
// they would have, unless this is the one of another pattern.
func TestCodesOfInvalidPats(t *testing.T) {
	list := brokenPats()
	for what, e := range brokenElems() {
		list["an element, "+what] = one(e)
		list["an element in a sequence, "+what] = seq(anEdge, one(e))
		list["a repeated element, "+what] = rep(alt(anEdge, one(e)), 1, 2)
	}
	for what, e := range brokenExprs() {
		if !zeroExpr(e) {
			list["Labels, "+what] = one(impl.Elem{Node: true, Labels: e})
			list["Cond, "+what] = seq(one(impl.Elem{Dir: impl.DirAny, Cond: e}), aNode)
		}
	}
	for _, text := range slices.Concat(badLabels, badConds) {
		list["the label "+text] = one(impl.Elem{Node: true, Labels: atom(text)})
		list["the condition "+text] = one(impl.Elem{Dir: impl.DirLeft, Cond: atom(text)})
	}
	others := 0
	for what, p := range list {
		if impl.PatValid(p) {
			continue
		}
		code, ok := impl.EncodePat(p)
		expectNoCode(t, "EncodePat of "+what, code, ok)
		if expectPatDecoding(t, codeOfPat(p)) {
			others++
		}
	}
	// These have fields that their codes leave out, or texts that are very long.
	if others < 10 || others > len(list)/2 {
		t.Errorf("%d codes of %d invalid patterns are those of others", others, len(list))
	}
}

// acceptedAt returns the numbers that can stand at a place of a code instead of
// the one that is there, and that one, if accepts says for which codes this is so.
func acceptedAt(code string, place int, accepts func(code []byte) bool) string {
	var list []byte
	for b := range 256 {
		changed := []byte(code)
		changed[place] = byte(b)
		if accepts(changed) {
			list = append(list, byte(b))
		}
	}
	return string(list)
}

// letters are all bytes of labels, and digits all those of numbers.
const (
	letters = "abcdefghijklmnopqrstuvwxyz"
	digits  = "0123456789"
)

// Each number of a code can be only what it stands for.
func TestDecodePatOfNumbersThatAreTooGreat(t *testing.T) {
	accepts := func(code []byte) bool {
		_, ok := impl.DecodePat(code)
		return ok
	}
	for text, want := range map[string][]string{
		"()":             {"\x01", "\x00\x01\x02\x03", "\x00", "\x00\x02", "\x00\x02"},
		"-[e:r?>12]->":   {"\x01", "\x00\x01\x02\x03", "\x01", letters, "\x01", "\x01", letters, "\x01", "\x03", "<=>", digits[1:], digits},
		"(:!%?!=5)":      {"\x01", "\x00\x01\x02\x03", "\x00", "\x03", "\x02", "\x03", "\x01", "\x02", "<=>", digits},
		"(:%&%)":         {"\x01", "\x00\x01\x02\x03", "\x00", "\x04\x05", "\x02", "\x02", "\x00\x02"},
		"-[]-()":         {"\x02\x03", "\x02", "\x01", "\x00\x01\x02\x03", "\x00", "\x00\x02", "\x00\x02", "\x01", "\x00\x01\x02\x03", "\x00", "\x00\x02", "\x00\x02"},
		"{-[]->}*":       {"\x04", "\x00\x01\x02\x03\x04\x05\x06\x07\x08\x09", "\x00\x02\x03\x04\x05\x06\x07\x08\x09\x0a", "\x01", "\x01\x02\x03", "\x00", "\x00\x02", "\x00\x02"},
		"{-[]->}^2,4":    {"\x04", "\x00\x01\x02\x03\x04", "\x00\x03\x04\x05\x06\x07\x08\x09\x0a", "\x01", "\x01\x02\x03", "\x00", "\x00\x02", "\x00\x02"},
		"{-[]->}^9,9":    {"\x04", "\x00\x01\x02\x03\x04\x05\x06\x07\x08\x09", "\x00\x0a"},
		"{()|()}":        {"\x02\x03", "\x02"},
		"(abcdef)":       {"\x01", "\x00\x01\x02\x03", "\x06", letters, letters, letters, letters, letters, letters, "\x00\x02", "\x00\x02"},
		"(?<99)":         {"\x01", "\x00\x01\x02\x03", "\x00", "\x00\x02", "\x01", "\x03", "<=>", digits[1:], digits},
		"{-[]-()}^1,1()": {"\x02\x03", "\x02", "\x04", "\x00\x01", "\x00\x02\x03\x04\x05\x06\x07\x08\x09\x0a", "\x02", "\x02"},
	} {
		code := codeOfPat(patOf(t, text))
		for place, nums := range want {
			if got := acceptedAt(code, place, accepts); got != nums {
				t.Errorf("the code %q of %s can have %q at %d, not %q", code, text, got, place, nums)
			}
		}
	}
	// A text can't have the bytes behind the end, however many there are.
	for length := 1; length < 256; length++ {
		for _, front := range []string{"\x01\x00", "\x01\x00\x00\x01", "\x01\x01\x00\x00\x01"} {
			back, ok := impl.DecodePat([]byte(front + bytesOf(length) + strings.Repeat("x", length-1)))
			expectNoPat(t, "DecodePat of a text that ends too early", back, ok)
		}
	}
}

// A code that differs in one byte, or from which one is taken, is that of another
// pattern, or of none.
func TestDecodePatOfChangedCodes(t *testing.T) {
	for _, text := range []string{"()", "(x:a|b){-[e:r?=9]->|<-[]-}^2,3(y)", "{{-[]->}+(n)-[]-|-[:r]->}?", "{-[e:%?!%]->(x)}*()", "{(x:!(a|b))|()}-[]->", "{{-[]->(x)}^0,3-[e]-}+", "()()()(x)", "(:a&b&!c?<5|=7)"} {
		count := 0
		for _, changed := range changedTexts(codeOfPat(patOf(t, text))) {
			if expectPatDecoding(t, changed) {
				count++
			}
		}
		if count < 3 {
			t.Errorf("only %d changed codes of %s are those of patterns", count, text)
		}
	}
}

// All short codes, of the bytes that patterns have, are as the document says.
func TestDecodePatOfAllShortCodes(t *testing.T) {
	for _, x := range []struct {
		front  string
		tokens []string
		most   int
		least  int
	}{
		{"", []string{"\x00", "\x01", "\x02", "\x03", "\x04", "\x05", "x", "\xff"}, 6, 40},
		{"\x01", []string{"\x00", "\x01", "\x02", "\x03", "\x04", "a", "<"}, 6, 100},
		{"\x01\x00\x00", []string{"\x00", "\x01", "\x02", "\x03", "\x05", "\x01a", "\x02<5"}, 6, 150},
		{"\x02", []string{"\x01", "\x02", "\x03", "\x04", "\x01\x00\x00\x00\x00", "\x01\x01\x00\x00\x00"}, 6, 50},
		{"\x04", []string{"\x00", "\x02", "\x03", "\x04", "\x09", "\x0a", "\x0b", "\x01\x01\x00\x00\x00"}, 5, 20},
		{"", []string{"\x02\x02", "\x03\x02", "\x03\x03", "\x04\x01\x00", "\x01\x00\x00\x00\x00", "\x01\x01\x00\x00\x00", "\x01\x01\x01x\x00\x00"}, 6, 400},
	} {
		count := 0
		for _, code := range shortTexts(x.tokens, x.most) {
			if expectPatDecoding(t, x.front+code) {
				count++
			}
		}
		if count < x.least {
			t.Errorf("only %d codes with %q are those of patterns", count, x.front)
		}
	}
	back, ok := impl.DecodePat(nil)
	expectNoPat(t, "DecodePat of no bytes", back, ok)
}

// All small patterns have codes of their own, by which they are read back.
func TestCodesOfAllSmallPats(t *testing.T) {
	leaves := []impl.Pat{aNode, node("x"), anEdge, edge("e"), one(impl.Elem{Dir: impl.DirLeft, Labels: anything})}
	codes := map[string]bool{}
	for _, p := range slices.Concat(patsOfSize(4, leaves, [][2]int{{0, -1}, {1, 1}, {2, 3}})...) {
		code, ok := impl.EncodePat(p)
		if !plainPatValid(p) {
			expectNoCode(t, "EncodePat of "+codeOfPat(p), code, ok)
			expectPatDecoding(t, codeOfPat(p))
			continue
		}
		if codes[string(code)] {
			t.Errorf("two patterns have the code %q", code)
		}
		codes[string(code)] = true
		expectCode(t, "EncodePat of "+impl.FormatPat(p), code, ok, codeOfPat(p))
		expectPatDecoding(t, string(code))
	}
	if len(codes) < 500 {
		t.Errorf("only %d patterns have codes", len(codes))
	}
}

// greatCodes returns codes that are long, or that tell of very many parts or very
// deep ones, but are those of nothing.
func greatCodes() map[string]string {
	list := map[string]string{}
	for what, part := range map[string]string{
		"repetitions": "\x04\x01\x00", "repetitions without times": "\x04\x00\x00", "sequences of 255": "\x02\xff", "choices of 255": "\x03\xff", "sequences and choices of 2": "\x02\x02\x03\x02", "sequences of 1": "\x02\x01", "elements": "\x01\x00\x00\x00\x00", "negations": "\x03",
		"both": "\x04", "zeros": "\x00", "ones": "\x01", "twos": "\x02", "fives": "\x05", "letters": "x", "the greatest byte": "\xff", "sequences with nodes": "\x02\x02\x01\x00\x00\x00\x00", "choices of choices": "\x03\x03\x01\x00\x00\x00\x00", "texts": "\x01\x00\xff" + strings.Repeat("x", 255),
	} {
		for _, front := range []string{"", "\x01\x00\x00", "\x01\x01\x00\x00", "\x02\xff", "\x04\x01\x00", "\xff", "\x08"} {
			for _, length := range []int{1000, 3900, 7890, 7900, 20000, 100000} {
				list[what+" behind "+front+", "+number(length)] = front + strings.Repeat(part, length/len(part))
			}
			list[what+" behind "+front] = front + strings.Repeat(part, 1<<20/len(part))
		}
	}
	// Deeper than calls can be within each other.
	list["very many negations"] = "\x01\x00\x00" + strings.Repeat("\x03", 1<<24)
	list["very many repetitions"] = strings.Repeat("\x04\x01\x00", 1<<23)
	return list
}

func TestDecodingOfGreatCodes(t *testing.T) {
	for what, code := range greatCodes() {
		p, ok := impl.DecodePat([]byte(code))
		expectNoPat(t, "DecodePat of "+what, p, ok)
		g, ok := impl.DecodeGraph([]byte(code))
		expectZero(t, "DecodeGraph of "+what, g, ok)
	}
}

func TestEncodeGraph(t *testing.T) {
	for text, want := range map[string]string{
		"( 0)": "\x01\x00\x00\x00", "(a 5)": "\x01\x01a\x05\x00", "(abcdef 99)": "\x01\x06abcdef\x63\x00", "( 0)( 1)": "\x02\x00\x00\x00\x01\x00", "( 0)[0>0  0]": "\x01\x00\x00\x01\x00\x00\x00\x00", "(a 5)( 7)[0>1 r 3]": "\x02\x01a\x05\x00\x07\x01\x00\x01\x01r\x03", "(a 1)(b 2)(c 3)[2>1 xyz 99][0>0  10]": "\x03\x01a\x01\x01b\x02\x01c\x03\x02\x02\x01\x03xyz\x63\x00\x00\x00\x0a",
		sample: "\x03\x01a\x05\x00\x07\x01b\x63\x06\x00\x01\x01r\x03\x01\x01\x00\x00\x02\x00\x01s\x0c\x00\x01\x01t\x03\x00\x01\x01r\x03\x00\x02\x01r\x01", strings.Repeat("( 0)", 8): "\x08" + strings.Repeat("\x00\x00", 8) + "\x00",
	} {
		g := parsed(t, text)
		if codeOfGraph(g) != want {
			t.Errorf("the plain code of %s is %q", text, codeOfGraph(g))
		}
		code, ok := impl.EncodeGraph(g)
		expectCode(t, "EncodeGraph of "+text, code, ok, want)
		back, ok := impl.DecodeGraph([]byte(want))
		expectText(t, "DecodeGraph", back, ok, text)
		checkGraphCode(t, g)
	}
	code, ok := impl.EncodeGraph(impl.Graph{Nodes: []impl.Node{{}}, Edges: []impl.Edge{}})
	expectCode(t, "EncodeGraph of empty lists", code, ok, "\x01\x00\x00\x00")
}

func TestCodesOfGraphs(t *testing.T) {
	codes := map[string]bool{}
	for _, g := range graphsOfAllSizes() {
		checkGraphCode(t, g)
		codes[codeOfGraph(g)] = true
	}
	if len(codes) != len(graphsOfAllSizes()) {
		t.Errorf("%d graphs have %d codes", len(graphsOfAllSizes()), len(codes))
	}
	for what, g := range invalidGraphs() {
		code, ok := impl.EncodeGraph(g)
		expectNoCode(t, "EncodeGraph of one with "+what, code, ok)
		back, ok := impl.DecodeGraph([]byte(codeOfGraph(g)))
		expectZero(t, "DecodeGraph of one with "+what, back, ok)
	}
	for _, num := range []int{-1, 100, 255, 256, 257, 512, -256, 1 << 32, -1 << 63} {
		for what, g := range map[string]impl.Graph{
			"a node": {Nodes: []impl.Node{{Num: num}}}, "an edge": oneEdge(impl.Edge{Num: num}), "From": oneEdge(impl.Edge{From: num}), "To": oneEdge(impl.Edge{To: num}),
		} {
			code, ok := impl.EncodeGraph(g)
			expectNoCode(t, "EncodeGraph of a bad number of "+what, code, ok)
		}
	}
	for _, length := range []int{7, 255, 256, 257, 262, 512} {
		label := strings.Repeat("x", length)
		for _, g := range []impl.Graph{{Nodes: []impl.Node{{Label: label}}}, oneEdge(impl.Edge{Label: label})} {
			code, ok := impl.EncodeGraph(g)
			expectNoCode(t, "EncodeGraph of a long label", code, ok)
		}
	}
	for _, size := range []int{256, 257, 264, 270, 512} {
		for _, g := range []impl.Graph{sized(size, 0), sized(1, size)} {
			code, ok := impl.EncodeGraph(g)
			expectNoCode(t, "EncodeGraph of many nodes or edges", code, ok)
		}
	}
}

// checkGraphLimit fails unless a graph has a code that is read back, if it is
// valid, and otherwise has no code, and is not read from the one it would have.
func checkGraphLimit(t *testing.T, what string, g impl.Graph, valid bool) {
	t.Helper()
	if valid {
		checkGraphCode(t, g)
		return
	}
	code, ok := impl.EncodeGraph(g)
	expectNoCode(t, "EncodeGraph of "+what, code, ok)
	back, ok := impl.DecodeGraph([]byte(codeOfGraph(g)))
	expectZero(t, "DecodeGraph of "+what, back, ok)
}

func TestCodesOfGraphsWithinLimits(t *testing.T) {
	for num := range 256 {
		checkGraphLimit(t, "a node with "+number(num), impl.Graph{Nodes: []impl.Node{{Num: num}}}, num <= 99)
		checkGraphLimit(t, "an edge with "+number(num), oneEdge(impl.Edge{Num: num}), num <= 99)
		checkGraphLimit(t, "an edge from "+number(num), oneEdge(impl.Edge{From: num}), num <= 1)
		checkGraphLimit(t, "an edge to "+number(num), oneEdge(impl.Edge{To: num}), num <= 1)
		label := strings.Repeat("x", num)
		checkGraphLimit(t, "a node with a label of "+number(num), impl.Graph{Nodes: []impl.Node{{Label: label}}}, num <= 6)
		checkGraphLimit(t, "an edge with a label of "+number(num), oneEdge(impl.Edge{Label: label}), num <= 6)
		if num > 0 {
			checkGraphLimit(t, number(num)+" nodes", sized(num, 1), num <= 8)
		}
		checkGraphLimit(t, number(num)+" edges", sized(2, num), num <= 14)
	}
	for edges := range 17 {
		checkGraphLimit(t, "edges only", impl.Graph{Edges: make([]impl.Edge, edges)}, false)
	}
	nodes := slices.Repeat([]impl.Node{{Label: "abcdef", Num: 99}}, 8)
	checkGraphCode(t, impl.Graph{Nodes: nodes, Edges: slices.Repeat([]impl.Edge{{From: 7, To: 7, Label: "zzzzzz", Num: 99}}, 14)})
}

// Each number of a code can be only what it stands for.
func TestDecodeGraphOfNumbersThatAreTooGreat(t *testing.T) {
	accepts := func(code []byte) bool {
		_, ok := impl.DecodeGraph(code)
		return ok
	}
	nums := ""
	for num := range 100 {
		nums += bytesOf(num)
	}
	for text, want := range map[string][]string{
		"( 0)":                     {"\x01", "\x00", nums, "\x00"},
		"(a 5)( 77)[0>1 r 3]":      {"\x02", "\x01", letters, nums, "\x00", nums, "\x01", "\x00\x01", "\x00\x01", "\x01", letters, nums},
		"(ab 9)(c 9)(d 9)[2>0  9]": {"\x03", "\x02", letters, letters, nums, "\x01", letters, nums, "\x01", letters, nums, "\x01", "\x00\x01\x02", "\x00\x01\x02", "\x00", nums},
	} {
		code := codeOfGraph(parsed(t, text))
		for place, nums := range want {
			if got := acceptedAt(code, place, accepts); got != nums {
				t.Errorf("the code %q of %s can have %q at %d, not %q", code, text, got, place, nums)
			}
		}
	}
	for length := 1; length < 256; length++ {
		for _, front := range []string{"\x01", "\x01\x00\x00\x01\x00\x00"} {
			back, ok := impl.DecodeGraph([]byte(front + bytesOf(length) + strings.Repeat("x", length-1)))
			expectZero(t, "DecodeGraph of a label that ends too early", back, ok)
		}
	}
}

func TestDecodeGraphOfChangedCodes(t *testing.T) {
	for _, text := range []string{"( 0)", "(ab 10)( 0)[1>0  9]", "(a 5)( 7)[0>1 r 3]", "(a 1)(b 2)(c 3)[2>1 xyz 99][0>0  10]", sample} {
		count := 0
		for _, changed := range changedTexts(codeOfGraph(parsed(t, text))) {
			if expectGraphDecoding(t, changed) {
				count++
			}
		}
		if count < 99 {
			t.Errorf("only %d changed codes of %s are those of graphs", count, text)
		}
	}
}

func TestDecodeGraphOfAllShortCodes(t *testing.T) {
	for _, x := range []struct {
		front  string
		tokens []string
		most   int
		least  int
	}{
		{"", []string{"\x00", "\x01", "\x02", "\x03", "\x08", "\x09", "a", "\xff"}, 6, 20},
		{"\x01\x00\x00", []string{"\x00", "\x01", "\x02", "\x07", "c", "d", "z"}, 6, 10},
		{"\x02\x01a\x05", []string{"\x00", "\x01", "\x02", "\x63", "\x64", "\x01b"}, 6, 10},
	} {
		count := 0
		for _, code := range shortTexts(x.tokens, x.most) {
			if expectGraphDecoding(t, x.front+code) {
				count++
			}
		}
		if count < x.least {
			t.Errorf("only %d codes with %q are those of graphs", count, x.front)
		}
	}
	back, ok := impl.DecodeGraph(nil)
	expectZero(t, "DecodeGraph of no bytes", back, ok)
}

// expectSum fails unless the check sum of a code, and the code with it, are as the
// document says, and the code is taken from there again.
func expectSum(t *testing.T, code string) {
	t.Helper()
	if got := impl.SumBytes([]byte(code)); got != plainSum(code) {
		t.Errorf("SumBytes(%.100q) = %d, not %d", code, got, plainSum(code))
	}
	sealed := impl.SealBytes([]byte(code))
	if string(sealed) != plainSealed(code) {
		t.Errorf("SealBytes(%.100q) = %.100q, not %.100q", code, sealed, plainSealed(code))
	}
	opened, ok := impl.OpenBytes([]byte(plainSealed(code)))
	expectCode(t, "OpenBytes", opened, ok, code)
}

func TestSumBytes(t *testing.T) {
	for code, want := range map[string]int{
		"": 1, "\x00": 257, "\x01": 514, "\x05": 1542, "\x05\xfa": 11*256 + 5, "\xfa": 0, "\xfb": 257, "\xff": 5*256 + 5, "\xf9": 250*256 + 250, "\xfa\xfa": 250*256 + 250, "\x00\x00": 513, "\x00\x00\x00": 769, "\x01\x02": 6*256 + 4, "\x02\x01": 7*256 + 4, "\x01\x00\x00\x00\x00": 10*256 + 2,
		strings.Repeat("\x00", 250): 250*256 + 1, strings.Repeat("\x00", 251): 1, strings.Repeat("\x00", 252): 257, "abc": (98+196+44)%251*256 + 44,
	} {
		if got := impl.SumBytes([]byte(code)); got != want || plainSum(code) != want {
			t.Errorf("SumBytes(%.100q) = %d, not %d (%d)", code, got, want, plainSum(code))
		}
		expectSum(t, code)
	}
	for first := range 256 {
		expectSum(t, bytesOf(first))
		for second := range 256 {
			expectSum(t, bytesOf(first, second))
		}
	}
	random := rand.New(rand.NewSource(5))
	for i := range 2000 {
		code := make([]byte, random.Intn(2+i))
		random.Read(code)
		expectSum(t, string(code))
	}
	for _, length := range []int{1000, 65536, 100001, 1 << 20} {
		for _, b := range []string{"\x00", "\x01", "\xfa", "\xfb", "\xff", "z"} {
			expectSum(t, strings.Repeat(b, length))
		}
	}
}

func TestSealBytes(t *testing.T) {
	for code, want := range map[string]string{
		"": "\x00\x01", "\x00": "\x00\x01\x01", "\x01": "\x01\x02\x02", "\x05\xfa": "\x05\xfa\x0b\x05", "\xfa": "\xfa\x00\x00", "\xf9": "\xf9\xfa\xfa", "\x00\x01": "\x00\x01\x03\x02", "\x01\x00\x00\x00\x00": "\x01\x00\x00\x00\x00\x0a\x02",
	} {
		if got := impl.SealBytes([]byte(code)); string(got) != want {
			t.Errorf("SealBytes(%q) = %q, not %q", code, got, want)
		}
	}
	if got := impl.SealBytes(nil); string(got) != "\x00\x01" {
		t.Errorf("SealBytes of nothing = %q", got)
	}
	// What is sealed often is opened as often.
	code := "\x01\x00\x00\x00\x00"
	sealed := []byte(code)
	for range 20 {
		sealed = impl.SealBytes(sealed)
	}
	if len(sealed) != len(code)+40 {
		t.Errorf("SealBytes makes %d bytes", len(sealed))
	}
	for range 20 {
		opened, ok := impl.OpenBytes(sealed)
		expectCode(t, "OpenBytes", opened, ok, string(sealed[:len(sealed)-2]))
		sealed = opened
	}
	if string(sealed) != code {
		t.Errorf("OpenBytes takes the seals off %q", sealed)
	}
	opened, ok := impl.OpenBytes(sealed)
	expectNoCode(t, "OpenBytes without a seal", opened, ok)
}

// expectOpening fails unless OpenBytes finds what the document says.
func expectOpening(t *testing.T, code string) bool {
	t.Helper()
	opened, ok := impl.OpenBytes([]byte(code))
	if len(code) >= 2 && plainSealed(code[:len(code)-2]) == code {
		expectCode(t, "OpenBytes", opened, ok, code[:len(code)-2])
		return true
	}
	expectNoCode(t, "OpenBytes", opened, ok)
	return false
}

// Only one of all pairs of bytes behind a code is its check sum.
func TestOpenBytesOfAllPairs(t *testing.T) {
	opened, ok := impl.OpenBytes(nil)
	expectNoCode(t, "OpenBytes of nothing", opened, ok)
	for b := range 256 {
		opened, ok := impl.OpenBytes([]byte{byte(b)})
		expectNoCode(t, "OpenBytes of one byte", opened, ok)
	}
	for _, code := range []string{"", "\x00", "\xfa", "\xf9", "\x01\x00\x00\x00\x00", "\x05\xfa", "abcdef"} {
		count := 0
		for pair := range 1 << 16 {
			if expectOpening(t, code+bytesOf(pair>>8, pair)) {
				count++
			}
		}
		if count != 1 {
			t.Errorf("%d pairs are the check sum of %q", count, code)
		}
	}
}

// A byte can be changed only by 251 without being found, one can't be exchanged
// with the next one, and none can be left out or put in unless the sum stays.
func TestOpenBytesOfChangedCodes(t *testing.T) {
	for _, code := range []string{"", "\x00", "\x01\x00\x00\x00\x00", codeOfPat(patOf(t, "(x){-[e:r?>1]->}+(y)")), codeOfGraph(parsed(t, sample)), "\x00\xfb\x01\xfc\x04\xff"} {
		sealed := plainSealed(code)
		for _, changed := range changedTexts(sealed) {
			expectOpening(t, changed)
		}
		for i := range len(sealed) {
			opened, ok := impl.OpenBytes([]byte(sealed)[:i])
			if want := i >= 2 && plainSealed(sealed[:i-2]) == sealed[:i]; ok != want || !ok && len(opened) != 0 {
				t.Errorf("OpenBytes of %d bytes of %q = %q, %v", i, sealed, opened, ok)
			}
			if i > 0 {
				expectOpening(t, sealed[:i-1]+sealed[i:i+1]+sealed[i-1:i]+sealed[i+1:])
			}
			for b := range 256 {
				changed := []byte(sealed)
				difference := b - int(changed[i])
				changed[i] = byte(b)
				_, ok := impl.OpenBytes(changed)
				if want := difference == 0 || i < len(code) && difference%251 == 0; ok != want {
					t.Errorf("OpenBytes(%q) = %v", changed, ok)
				}
			}
		}
	}
}

// Promise 12: bytes are read back. Patterns and graphs have codes of their own,
// which are sealed, opened and decoded to what they were made of.
func TestBytesAreReadBack(t *testing.T) {
	codes := map[string]string{}
	for _, x := range patsWithTexts() {
		code, ok := impl.EncodePat(x.p)
		opened, ok2 := impl.OpenBytes(impl.SealBytes(code))
		back, ok3 := impl.DecodePat(opened)
		if !ok || !ok2 || !ok3 || !impl.PatSame(back, x.p) || impl.FormatPat(back) != x.text {
			t.Errorf("%s is read back from %q as %v", x.text, code, back)
		}
		if codes[string(code)] != "" && codes[string(code)] != x.text {
			t.Errorf("%s has the code of %s", x.text, codes[string(code)])
		}
		codes[string(code)] = x.text
		again, ok := impl.EncodePat(back)
		expectCode(t, "EncodePat of what is decoded", again, ok, string(code))
	}
	for _, g := range graphsOfAllSizes() {
		code, ok := impl.EncodeGraph(g)
		opened, ok2 := impl.OpenBytes(impl.SealBytes(code))
		back, ok3 := impl.DecodeGraph(opened)
		if !ok || !ok2 || !ok3 || !impl.GraphSame(back, g) {
			t.Errorf("%v is read back from %q as %v", g, code, back)
		}
		again, ok := impl.EncodeGraph(back)
		expectCode(t, "EncodeGraph of what is decoded", again, ok, string(code))
		// A sealed code is that of nothing itself.
		none, ok := impl.DecodeGraph(impl.SealBytes(code))
		expectZero(t, "DecodeGraph of a sealed code", none, ok)
	}
}

// markedBytes returns a code in memory of its own, with marks behind it.
func markedBytes(code string) []byte {
	return []byte(code + strings.Repeat("\xee", 40))[:len(code)]
}

// untouchedBytes reports whether bytes made by markedBytes are still so.
func untouchedBytes(code []byte, want string) bool {
	return string(code[:len(code)+40]) == want+strings.Repeat("\xee", 40)
}

// wipeBytes writes over bytes, and over the memory behind them.
func wipeBytes(code []byte) {
	code = code[:cap(code)]
	for i := range code {
		code[i] ^= 0x55
	}
}

func TestCodesShareNoMemory(t *testing.T) {
	for _, x := range patsWithTexts() {
		p, want := roomyPat(x.p), codeOfPat(x.p)
		first, ok := impl.EncodePat(p)
		second, _ := impl.EncodePat(p)
		wipeBytes(first)
		wipePat(p)
		expectCode(t, "EncodePat of "+x.text+", wiped", second, ok, want)
	}
	g := roomy()
	first, ok := impl.EncodeGraph(g)
	second, _ := impl.EncodeGraph(g)
	wipeBytes(first)
	if !impl.GraphSame(whole(g), whole(roomy())) {
		t.Error("EncodeGraph changes its argument")
	}
	wipe(g)
	expectCode(t, "EncodeGraph of a graph that is wiped", second, ok, codeOfGraph(sampleGraph()))
	for _, code := range []string{"", "\x00", "abc", codeOfGraph(sampleGraph()), strings.Repeat("x", 1000)} {
		for what, x := range map[string]struct {
			call      func(code []byte) ([]byte, bool)
			from, got string
		}{
			"SealBytes": {func(code []byte) ([]byte, bool) { return impl.SealBytes(code), true }, code, plainSealed(code)},
			"OpenBytes": {impl.OpenBytes, plainSealed(code), code},
		} {
			given := markedBytes(x.from)
			first, ok := x.call(given)
			second, _ := x.call(given)
			wipeBytes(first)
			if !ok || !untouchedBytes(given, x.from) {
				t.Errorf("%s(%.50q) = %v, or it has or changes memory of its argument", what, x.from, ok)
			}
			wipeBytes(given)
			expectCode(t, what+" of bytes that are wiped", second, true, x.got)
		}
	}
}

func TestDecodingSharesNoMemory(t *testing.T) {
	for _, x := range patsWithTexts() {
		given := markedBytes(codeOfPat(x.p))
		first, ok := impl.DecodePat(given)
		second, _ := impl.DecodePat(given)
		wipePat(first)
		if !ok || !untouchedBytes(given, codeOfPat(x.p)) || !plainPatSame(second, x.p) {
			t.Errorf("DecodePat of the code of %s shares memory, or changes its argument", x.text)
		}
		wipeBytes(given)
		if !plainPatSame(second, x.p) {
			t.Errorf("DecodePat of the code of %s is in the memory of its argument", x.text)
		}
		for i := range second.Kids {
			wipePat(second.Kids[i])
			second.Kids[i] = copiedPat(x.p.Kids[i])
			if !plainPatSame(second, x.p) {
				t.Errorf("DecodePat of the code of %s has parts in the same memory", x.text)
			}
		}
	}
	for _, g := range graphsOfAllSizes() {
		given := markedBytes(codeOfGraph(g))
		first, ok := impl.DecodeGraph(given)
		second, _ := impl.DecodeGraph(given)
		wipe(first)
		if !ok || !untouchedBytes(given, codeOfGraph(g)) || !impl.GraphSame(second, g) {
			t.Errorf("DecodeGraph of the code of %v shares memory, or changes its argument", g)
		}
		wipeBytes(given)
		if !impl.GraphSame(second, g) {
			t.Errorf("DecodeGraph of the code of %v is in the memory of its argument", g)
		}
	}
}

func TestCodingLeavesItsArgumentsAlone(t *testing.T) {
	for _, x := range patsWithTexts() {
		p := roomyPat(x.p)
		impl.EncodePat(p)
		if !plainPatSame(p, x.p) || !marksStay(p) {
			t.Errorf("EncodePat changes %s", x.text)
		}
	}
	for _, code := range []string{"", "\x00", "\x01\x00\x00\x00\x00", "\x01\x00\x00\x00", "\x02\xff\x01", "\x01\x00\x00\x00", "\xff\xff\xff", "\x00\x01", "\x00\x02", plainSealed("abc")} {
		given := markedBytes(code)
		impl.SumBytes(given)
		impl.SealBytes(given)
		impl.OpenBytes(given)
		impl.DecodePat(given)
		impl.DecodeGraph(given)
		if !untouchedBytes(given, code) || !bytes.Equal(given, []byte(code)) {
			t.Errorf("a function that reads %q changes it", code)
		}
	}
}
