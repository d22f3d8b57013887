package tests

import (
	"slices"
	"strings"
	"testing"

	"loop.example/graphpatterns/impl"
)

// textedElem is an element with its text.
type textedElem struct {
	text string
	e    impl.Elem
}

// elemsWithTexts returns elements of nodes and of edges in each direction, with
// the texts that they have: each of the parts alone, and all ways to put them
// together.
func elemsWithTexts() []textedElem {
	forms := []struct {
		front, behind string
		dir           int
	}{{"(", ")", 0}, {"-[", "]->", impl.DirRight}, {"<-[", "]-", impl.DirLeft}, {"-[", "]-", impl.DirAny}}
	labels := append(labelExprs(), texted{})
	conds := append(numExprs(), texted{})
	var list []textedElem
	for _, form := range forms {
		for _, name := range []string{"", "x", "abcdef", "zz"} {
			for i, l := range labels {
				for j, c := range conds {
					// Each part stands beside none and beside some of the others.
					if (i+j)%5 != 0 && l.text != "" && c.text != "" {
						continue
					}
					text := form.front + name
					if l.text != "" {
						text += ":" + l.text
					}
					if c.text != "" {
						text += "?" + c.text
					}
					e := impl.Elem{Node: form.dir == 0, Var: name, Labels: l.e, Cond: c.e, Dir: form.dir}
					list = append(list, textedElem{text + form.behind, e})
				}
			}
		}
	}
	return list
}

// brokenElems returns elements that break one rule each.
func brokenElems() map[string]impl.Elem {
	a := atom("a")
	list := map[string]impl.Elem{
		"the zero value":          {},
		"an edge without Dir":     {Var: "e", Labels: a},
		"an edge with Dir -1":     {Dir: -1},
		"an edge with Dir 4":      {Dir: 4},
		"an edge with a huge Dir": {Dir: 1 << 40},
		"a node to the right":     {Node: true, Dir: impl.DirRight},
		"a node to the left":      {Node: true, Dir: impl.DirLeft},
		"a node in any direction": {Node: true, Dir: impl.DirAny},
		"a node with Dir -1":      {Node: true, Dir: -1},
		"a node with Dir 4":       {Node: true, Dir: 4},
		"numbers as labels":       {Node: true, Labels: atom("<5")},
		"labels as a condition":   {Node: true, Cond: a},
		"a bound of 100":          {Dir: impl.DirAny, Cond: atom("<100")},
		"7 letters within Labels": {Dir: impl.DirAny, Labels: not(atom("abcdefg"))},
		"Op 0 with an atom":       {Node: true, Labels: impl.Expr{Atom: "a"}},
		"Op 0 with a part":        {Node: true, Labels: impl.Expr{Kids: []impl.Expr{a}}},
		"a Cond with Op 0":        {Node: true, Cond: impl.Expr{Atom: "<5"}},
		"a Cond with empty parts": {Dir: impl.DirLeft, Cond: impl.Expr{Kids: []impl.Expr{{}}}},
	}
	for _, name := range []string{"A", "abcdefg", "x1", " ", "x ", "é", "x\x00", ":", "?", "(x)", "x:a", strings.Repeat("x", 10000)} {
		list["a node called "+name] = impl.Elem{Node: true, Var: name}
		list["an edge called "+name] = impl.Elem{Var: name, Dir: impl.DirRight}
	}
	for what, e := range brokenExprs() {
		if !zeroExpr(e) {
			list["Labels with "+what] = impl.Elem{Node: true, Labels: e}
			list["Cond with "+what] = impl.Elem{Node: true, Cond: e}
			list["Labels of an edge with "+what] = impl.Elem{Labels: e, Dir: impl.DirLeft}
		}
	}
	return list
}

// elemOf returns the element with a text that must have one.
func elemOf(t *testing.T, text string) impl.Elem {
	t.Helper()
	e, ok := impl.ParseElem(text)
	if !ok {
		t.Fatalf("ParseElem(%q) fails", text)
	}
	return e
}

// plainElemSame reports whether two elements with small expressions are equal;
// it is written without the package, for testing it.
func plainElemSame(a impl.Elem, b impl.Elem) bool {
	return a.Node == b.Node && a.Var == b.Var && a.Dir == b.Dir && plainSame(a.Labels, b.Labels) && plainSame(a.Cond, b.Cond)
}

// zeroElem reports whether e is the zero value.
func zeroElem(e impl.Elem) bool {
	return !e.Node && e.Var == "" && e.Dir == 0 && zeroExpr(e.Labels) && zeroExpr(e.Cond)
}

// expectNoElem fails unless e is the zero value, and ok is false.
func expectNoElem(t *testing.T, what string, e impl.Elem, ok bool) {
	t.Helper()
	if ok || !zeroElem(e) {
		t.Errorf("%.80s = %v, %v", what, e, ok)
	}
}

func TestElemValid(t *testing.T) {
	for _, x := range elemsWithTexts() {
		if !impl.ElemValid(x.e) {
			t.Errorf("ElemValid of %s does not hold", x.text)
		}
	}
	for what, e := range brokenElems() {
		if impl.ElemValid(e) {
			t.Errorf("ElemValid accepts %.80s", what)
		}
	}
	empty := impl.Expr{Kids: []impl.Expr{}}
	if !impl.ElemValid(impl.Elem{Node: true, Labels: empty, Cond: empty}) {
		t.Error("ElemValid distinguishes nil and empty slices")
	}
}

func TestElemValidOfDirections(t *testing.T) {
	for dir := -3; dir <= 6; dir++ {
		if got := impl.ElemValid(impl.Elem{Dir: dir}); got != (dir >= 1 && dir <= 3) {
			t.Errorf("ElemValid of an edge with Dir %d = %v", dir, got)
		}
		if got := impl.ElemValid(impl.Elem{Node: true, Dir: dir}); got != (dir == 0) {
			t.Errorf("ElemValid of a node with Dir %d = %v", dir, got)
		}
	}
}

func TestElemValidWithinLimits(t *testing.T) {
	for length := range 9 {
		if got := impl.ElemValid(impl.Elem{Node: true, Var: strings.Repeat("x", length)}); got != (length <= 6) {
			t.Errorf("ElemValid with %d letters = %v", length, got)
		}
	}
	for nodes := 18; nodes <= 23; nodes++ {
		if got := impl.ElemValid(impl.Elem{Dir: impl.DirAny, Labels: wide(nodes)}); got != (nodes <= 20) {
			t.Errorf("ElemValid with %d nodes of Labels = %v", nodes, got)
		}
	}
	for way := 1; way <= 15; way++ {
		if got := impl.ElemValid(impl.Elem{Node: true, Cond: chained(way-1, atom("=5"))}); got != (way <= 12) {
			t.Errorf("ElemValid with %d nodes of Cond on a way = %v", way, got)
		}
	}
	for bound := range 103 {
		if got := impl.ElemValid(impl.Elem{Dir: impl.DirRight, Cond: atom(">" + number(bound))}); got != (bound <= 99) {
			t.Errorf("ElemValid with a bound of %d = %v", bound, got)
		}
	}
}

func TestElemSame(t *testing.T) {
	base := func() impl.Elem {
		return impl.Elem{Var: "e", Labels: or(atom("a"), not(atom("b"))), Cond: and(atom("<5"), atom(">1")), Dir: impl.DirRight}
	}
	changes := map[string]func(e *impl.Elem){
		"Node":             func(e *impl.Elem) { e.Node = true },
		"Var":              func(e *impl.Elem) { e.Var = "f" },
		"no Var":           func(e *impl.Elem) { e.Var = "" },
		"Dir":              func(e *impl.Elem) { e.Dir = impl.DirLeft },
		"Labels":           func(e *impl.Elem) { e.Labels = anything },
		"no Labels":        func(e *impl.Elem) { e.Labels = impl.Expr{} },
		"Labels below":     func(e *impl.Elem) { e.Labels.Kids[1].Kids[0].Atom = "c" },
		"Cond":             func(e *impl.Elem) { e.Cond = anything },
		"no Cond":          func(e *impl.Elem) { e.Cond = impl.Expr{} },
		"Cond below":       func(e *impl.Elem) { e.Cond.Kids[0].Atom = "=5" },
		"exchanged parts":  func(e *impl.Elem) { e.Labels, e.Cond = e.Cond, e.Labels },
		"nothing else set": func(e *impl.Elem) { *e = impl.Elem{} },
	}
	if !impl.ElemSame(base(), base()) {
		t.Error("ElemSame distinguishes equal elements")
	}
	for what, change := range changes {
		changed := base()
		change(&changed)
		if impl.ElemSame(base(), changed) || impl.ElemSame(changed, base()) || !impl.ElemSame(changed, changed) {
			t.Errorf("ElemSame is wrong for another %s", what)
		}
	}
}

func TestElemSameAcceptsInvalidElems(t *testing.T) {
	again := brokenElems()
	for what, e := range brokenElems() {
		if !impl.ElemSame(e, again[what]) || impl.ElemSame(e, impl.Elem{Node: true}) || impl.ElemSame(impl.Elem{Dir: 1}, e) {
			t.Errorf("ElemSame is wrong for %.80s", what)
		}
	}
	if impl.ElemSame(impl.Elem{Dir: 7}, impl.Elem{Dir: 8}) || impl.ElemSame(impl.Elem{Var: "A"}, impl.Elem{Var: "B"}) {
		t.Error("ElemSame does not distinguish invalid elements")
	}
	if !impl.ElemSame(impl.Elem{}, impl.Elem{Cond: impl.Expr{Kids: []impl.Expr{}}}) {
		t.Error("ElemSame distinguishes nil and empty slices")
	}
}

func TestFormatElem(t *testing.T) {
	for _, x := range elemsWithTexts() {
		if s := impl.FormatElem(x.e); s != x.text {
			t.Errorf("FormatElem = %q, not %q", s, x.text)
		}
	}
	for what, e := range brokenElems() {
		if s := impl.FormatElem(e); s != "" {
			t.Errorf("FormatElem of %.80s = %q", what, s)
		}
	}
}

// Promise 3: each element has a text of its own, by which it is read back.
func TestElemsAreReadBack(t *testing.T) {
	texts := map[string]bool{}
	for _, x := range elemsWithTexts() {
		e, ok := impl.ParseElem(x.text)
		if !ok || !plainElemSame(e, x.e) || !impl.ElemSame(e, x.e) || impl.FormatElem(e) != x.text || texts[x.text] {
			t.Errorf("ParseElem(%q) = %v, %v", x.text, e, ok)
		}
		texts[x.text] = true
	}
	for _, text := range []string{"()", "-[]->", "<-[]-", "-[]-", "(x:a|b?<5)", "-[:r]->", "(:!(a|b)&%?>1)", "(?%)", "(:%)", "<-[e?!(<5|>7)]-"} {
		if s := impl.FormatElem(elemOf(t, text)); s != text {
			t.Errorf("FormatElem(ParseElem(%q)) = %q", text, s)
		}
	}
}

// Expressions can have more brackets than FormatElem writes.
func TestParseElemWithMoreBrackets(t *testing.T) {
	for text, want := range map[string]string{
		"(:(a))": "(:a)", "((a))": "", "(x:((a)|b))": "(x:a|b)", "(?(<5))": "(?<5)", "(x:(a|b)?((<5)&(>1)))": "(x:a|b?<5&>1)",
		"-[:(!(r))]->": "-[:!r]->", "<-[e:(%)?(!(%))]-": "<-[e:%?!%]-", "-[(e)]-": "", "-[:((a&b)&c)]-": "-[:a&b&c]-",
		"-[:(a|b)|c?=1|(=2|=3)]->": "-[:a|b|c?=1|(=2|=3)]->", "-[?((=1|=2)|=3)]-": "-[?=1|=2|=3]-",
	} {
		e, ok := impl.ParseElem(text)
		if ok != (want != "") || impl.FormatElem(e) != want {
			t.Errorf("ParseElem(%q) = %v, %v", text, e, ok)
		}
	}
}

func TestParseElemWithinLimits(t *testing.T) {
	for brackets := range 45 {
		for _, x := range [][2]string{{"(:", ")"}, {"-[e:a?", "]->"}, {"<-[:", "?<5]-"}, {"-[?", "]-"}} {
			part := "a"
			if strings.HasSuffix(x[0], "?") {
				part = "=99"
			}
			text := x[0] + inBrackets(part, brackets) + x[1]
			if e, ok := impl.ParseElem(text); ok != (brackets <= 39) || ok == zeroElem(e) {
				t.Errorf("ParseElem(%q) = %v, %v", text, e, ok)
			}
		}
	}
	for count := 9; count <= 13; count++ {
		text := "(abcdef:" + strings.Repeat("abcdef|", count-1) + "abcdef)"
		if e, ok := impl.ParseElem(text); ok != (2*count-1 <= 20) || ok == zeroElem(e) {
			t.Errorf("ParseElem(%q) = %v, %v", text, e, ok)
		}
	}
	for text, want := range map[string]bool{
		"(abcdef)": true, "(abcdefg)": false, "-[abcdef]->": true, "-[abcdefg]->": false, "(:abcdef)": true, "(:abcdefg)": false,
		"(?<99)": true, "(?<100)": false, "-[?=0]-": true, "-[?=00]-": false, "-[?>-1]-": false, "<-[?!!!!!!!!!!!=5]-": true, "<-[?!!!!!!!!!!!!=5]-": false,
	} {
		e, ok := impl.ParseElem(text)
		if ok != want || !ok && !zeroElem(e) {
			t.Errorf("ParseElem(%q) = %v, %v", text, e, ok)
		}
	}
}

func TestParseElemOfOtherTexts(t *testing.T) {
	many := 1000000
	for _, text := range []string{
		"", " ", "x", ":a", "?<5", "(", ")", ")(", "[", "]", "[]", "-", "--", "->", "<-", "<>", "-->", "<--", "<-->", "-[", "]-", "-[]", "[]-", "[]->", "<-[]",
		"-[]>", "<[]-", "-[]->>", "<<-[]-", "<-[]->", "<-[]--", "--[]-", "->[]-", "-[]<-", "- []-", "-[]- ", " -[]-", "-[ ]-", "-[]-\n", "-[]->\x00",
		"-[[]]-", "-[]]-", "-[[]-", "-()-", "-()->", "-(e)->", "([])", "(-[]-)", "(()", "())", "(())", "()()", "()-[]->", "-[]-()", "-[]--[]-", "{()}", "{-[]->}",
		"(x", "x)", "(x]", "-[x)->", "<-[x)-", "(X)", "(1)", "(x1)", "(x y)", "( x)", "(x )", "(é)", "(\xff)", "(_)", "(%)", "(!x)", "(a|b)", "(<5)", "(=5)",
		"(:)", "(?)", "(:?)", "(x:)", "(x?)", "(x:?<5)", "(x:a?)", "(x?:a)", "(x?<5:a)", "(?<5:a)", "(:a:b)", "(x:a:b)", "(?<5?>1)", "(::a)", "(:a??<5)", "(x:a?<5?>1)",
		"(x: a)", "(x :a)", "(x:a )", "(x:a ?<5)", "(x:a? <5)", "(x:a?<5 )", "(x:A)", "(x:<5)", "(x?a)", "(x?5)", "(:a|)", "(:a&&b)", "(:(a)", "(:a))", "(:(a)?<5", "(?(<5)",
		"-[:]->", "-[?]-", "<-[e:]-", "-[e:a?]-", "-[e?<5:a]->", "-[e:a]", "-[e:a->", "-[e:a]-x", "-[?<5]>", "-[?>5->", "-[?>]->", "<-[?<]-", "-[:a-]-",
		strings.Repeat("(", many), strings.Repeat("()", many), strings.Repeat("-[]->", many), "(" + strings.Repeat("x", many) + ")", strings.Repeat("<", many), strings.Repeat("-", many),
		"(:" + strings.Repeat("(", many), "-[:" + strings.Repeat("!", many) + "a]-", "(:" + strings.Repeat("a|", many) + "a)", "-[?" + inBrackets("<5", many) + "]->", "(?<" + strings.Repeat("9", many) + ")",
	} {
		e, ok := impl.ParseElem(text)
		expectNoElem(t, "ParseElem of "+text, e, ok)
	}
}

// readElemPlainly reads an element by what it begins and ends with, and by the
// first `:` and `?` in it, which cannot stand in an expression.
func readElemPlainly(text string) (impl.Elem, bool) {
	var e impl.Elem
	front, behind := "", ""
	switch {
	case strings.HasPrefix(text, "("):
		front, behind, e.Node = "(", ")", true
	case strings.HasPrefix(text, "<"):
		front, behind, e.Dir = "<-[", "]-", impl.DirLeft
	case strings.HasSuffix(text, ">"):
		front, behind, e.Dir = "-[", "]->", impl.DirRight
	default:
		front, behind, e.Dir = "-[", "]-", impl.DirAny
	}
	if !strings.HasPrefix(text, front) || !strings.HasSuffix(text, behind) || len(text) < len(front)+len(behind) {
		return impl.Elem{}, false
	}
	inner, cond, hasCond := strings.Cut(text[len(front):len(text)-len(behind)], "?")
	name, labels, hasLabels := strings.Cut(inner, ":")
	e.Var = name
	ok := name == "" || impl.LabelValid(name)
	if hasLabels {
		parsed, fine := impl.ParseExpr(labels, impl.KindLabel)
		e.Labels, ok = parsed, ok && fine
	}
	if hasCond {
		parsed, fine := impl.ParseExpr(cond, impl.KindNum)
		e.Cond, ok = parsed, ok && fine
	}
	if !ok {
		return impl.Elem{}, false
	}
	return e, true
}

// Each short text is read as the document says, or not at all.
func TestParseElemOfAllShortTexts(t *testing.T) {
	inner := []string{""}
	last := inner
	for range 5 {
		var longer []string
		for _, text := range last {
			for _, b := range "a:?%!(<)5" {
				longer = append(longer, text+string(b))
			}
		}
		inner, last = append(inner, longer...), longer
	}
	counts := map[int]int{}
	for _, front := range []string{"(", "-[", "<-[", "", "<"} {
		for _, behind := range []string{")", "]->", "]-", "", ">"} {
			for _, text := range inner {
				text = front + text + behind
				want, wanted := readElemPlainly(text)
				got, ok := impl.ParseElem(text)
				if ok != wanted || !plainElemSame(got, want) {
					t.Fatalf("ParseElem(%q) = %v, %v, not %v, %v", text, got, ok, want, wanted)
				}
				if ok {
					counts[got.Dir]++
				}
			}
		}
	}
	for dir := range 4 {
		if counts[dir] < 50 {
			t.Errorf("only %d texts are those of elements with Dir %d", counts[dir], dir)
		}
	}
}

// A text that differs in one byte is that of another element, or of none.
func TestParseElemOfChangedTexts(t *testing.T) {
	for _, text := range []string{"(x:!(a|b)&%?>2&<15)", "-[ef:r?=9]->", "<-[:r|s]-", "-[?!<5]-", "()"} {
		for i := range len(text) + 1 {
			for b := range 256 {
				put, rest := string([]byte{byte(b)}), text[min(i+1, len(text)):]
				for _, changed := range []string{text[:i] + put + text[i:], text[:i] + put + rest, text[:i] + rest} {
					want, wanted := readElemPlainly(changed)
					e, ok := impl.ParseElem(changed)
					if ok != wanted || !plainElemSame(e, want) {
						t.Errorf("ParseElem(%q) = %v, %v, not %v, %v", changed, e, ok, want, wanted)
					}
				}
			}
		}
	}
}

// plainFits reports whether a label and a number fit an element, by the tables
// of the document.
func plainFits(label string, num int, e impl.Elem) bool {
	return (zeroExpr(e.Labels) || labelFits(e.Labels, label)) && (zeroExpr(e.Cond) || numFits(e.Cond, num))
}

// plainHops returns the hops of an element from a node, by the document.
func plainHops(g impl.Graph, node int, e impl.Elem) []impl.Hop {
	var hops []impl.Hop
	for i, edge := range g.Edges {
		right := edge.From == node && (e.Dir == impl.DirRight || e.Dir == impl.DirAny)
		left := edge.To == node && (e.Dir == impl.DirLeft || e.Dir == impl.DirAny)
		switch {
		case e.Node || !plainFits(edge.Label, edge.Num, e):
		case right:
			hops = append(hops, impl.Hop{Edge: i, To: edge.To})
		case left:
			hops = append(hops, impl.Hop{Edge: i, To: edge.From})
		}
	}
	return hops
}

// plainElems returns elements that some nodes or edges of the graphs of these
// tests fit, and others do not.
func plainElems(t *testing.T) []impl.Elem {
	var list []impl.Elem
	for _, inner := range []string{"", "x", ":a", "x:r", ":!a", ":%", ":!%", ":a|zz", ":!(r|s)&%", "?<5", "?=3", "?>50", "?!%", "?%", "x:%?>9", ":r?<3|>11", ":a&b", "?=99", ":abcdef?=99"} {
		for _, form := range [][2]string{{"(", ")"}, {"-[", "]->"}, {"<-[", "]-"}, {"-[", "]-"}} {
			list = append(list, elemOf(t, form[0]+inner+form[1]))
		}
	}
	return list
}

// Promise 3: elements say which nodes fit, and edges fit them in a direction.
func TestFitsAndHopsOfManyGraphs(t *testing.T) {
	graphs := append(graphsOfAllSizes(), sampleGraph(), sized(8, 14), sized(1, 0))
	for _, e := range plainElems(t) {
		for _, g := range graphs {
			for i := -1; i <= 15; i++ {
				node := i >= 0 && i < len(g.Nodes) && e.Node && plainFits(g.Nodes[i].Label, g.Nodes[i].Num, e)
				edge := i >= 0 && i < len(g.Edges) && !e.Node && plainFits(g.Edges[i].Label, g.Edges[i].Num, e)
				if impl.NodeFits(g, i, e) != node || impl.EdgeFits(g, i, e) != edge {
					t.Errorf("NodeFits or EdgeFits of %s and %d in %v is wrong", impl.FormatElem(e), i, g)
				}
				if hops := impl.HopsFrom(g, i, e); !slices.Equal(hops, plainHops(g, i, e)) {
					t.Errorf("HopsFrom of %s and %d in %v = %v", impl.FormatElem(e), i, g, hops)
				}
			}
		}
	}
}

// expectFits fails unless exactly these nodes and edges of sample fit a text.
func expectFits(t *testing.T, text string, nodes []int, edges []int) {
	t.Helper()
	e := elemOf(t, text)
	var gotNodes, gotEdges []int
	for i := -3; i < 20; i++ {
		if impl.NodeFits(sampleGraph(), i, e) {
			gotNodes = append(gotNodes, i)
		}
		if impl.EdgeFits(sampleGraph(), i, e) {
			gotEdges = append(gotEdges, i)
		}
	}
	if !slices.Equal(gotNodes, nodes) || !slices.Equal(gotEdges, edges) {
		t.Errorf("the nodes %v and the edges %v fit %s", gotNodes, gotEdges, text)
	}
}

func TestNodeFitsAndEdgeFits(t *testing.T) {
	expectFits(t, "()", []int{0, 1, 2}, nil)
	expectFits(t, "(x)", []int{0, 1, 2}, nil)
	expectFits(t, "(x:a)", []int{0}, nil)
	expectFits(t, "(:a|b)", []int{0, 2}, nil)
	expectFits(t, "(:a|b?<6)", []int{0}, nil)
	expectFits(t, "(:a|b?<5)", nil, nil)
	expectFits(t, "(:%)", []int{0, 2}, nil)
	expectFits(t, "(:!%)", []int{1}, nil)
	expectFits(t, "(:!a)", []int{1, 2}, nil)
	expectFits(t, "(?>5)", []int{1, 2}, nil)
	expectFits(t, "(?%)", []int{0, 1, 2}, nil)
	expectFits(t, "(?!%)", nil, nil)
	expectFits(t, "(:r)", nil, nil)
	all := []int{0, 1, 2, 3, 4, 5}
	for _, form := range [][2]string{{"-[", "]->"}, {"<-[", "]-"}, {"-[", "]-"}} {
		expectFits(t, form[0]+form[1], nil, all)
		expectFits(t, form[0]+"e"+form[1], nil, all)
		expectFits(t, form[0]+":r"+form[1], nil, []int{0, 4, 5})
		expectFits(t, form[0]+"e:r?=3"+form[1], nil, []int{0, 4})
		expectFits(t, form[0]+":!r"+form[1], nil, []int{1, 2, 3})
		expectFits(t, form[0]+":%?<12"+form[1], nil, []int{0, 3, 4, 5})
		expectFits(t, form[0]+"?=0"+form[1], nil, []int{1})
		expectFits(t, form[0]+":a"+form[1], nil, nil)
	}
}

// Numbers at the ends of their range fit conditions at the ends of theirs.
func TestFitsOfNumbersAtLimits(t *testing.T) {
	g := parsed(t, "( 0)( 99)[0>1  0][1>0  99]")
	for cond, want := range map[string][2]bool{
		"<0": {false, false}, "=0": {true, false}, ">0": {false, true}, "<99": {true, false}, "=99": {false, true}, ">99": {false, false},
	} {
		for i := range 2 {
			if impl.NodeFits(g, i, elemOf(t, "(?"+cond+")")) != want[i] || impl.EdgeFits(g, i, elemOf(t, "<-[?"+cond+"]-")) != want[i] {
				t.Errorf("%s is wrong for the node or the edge %d", cond, i)
			}
		}
	}
}

// expectHops fails unless the hops from a node of sample are these, written as
// the edge and the node.
func expectHops(t *testing.T, node int, text string, want ...[2]int) {
	t.Helper()
	var got [][2]int
	for _, h := range impl.HopsFrom(sampleGraph(), node, elemOf(t, text)) {
		got = append(got, [2]int{h.Edge, h.To})
	}
	if !slices.Equal(got, want) {
		t.Errorf("HopsFrom of %d and %s = %v, not %v", node, text, got, want)
	}
}

func TestHopsFrom(t *testing.T) {
	expectHops(t, 0, "-[]->", [2]int{0, 1}, [2]int{3, 1}, [2]int{4, 1}, [2]int{5, 2})
	expectHops(t, 0, "<-[]-", [2]int{2, 2})
	expectHops(t, 0, "-[]-", [2]int{0, 1}, [2]int{2, 2}, [2]int{3, 1}, [2]int{4, 1}, [2]int{5, 2})
	expectHops(t, 2, "-[]->", [2]int{2, 0})
	expectHops(t, 2, "<-[]-", [2]int{5, 0})
	expectHops(t, 2, "-[]-", [2]int{2, 0}, [2]int{5, 0})
	expectHops(t, 0, "-[e:r]->", [2]int{0, 1}, [2]int{4, 1}, [2]int{5, 2})
	expectHops(t, 0, "-[:r?<3]-", [2]int{5, 2})
	expectHops(t, 1, "<-[:t]-", [2]int{3, 0})
	expectHops(t, 1, "-[:t]->")
	expectHops(t, 0, "-[:a]-")
}

// An edge from a node to itself goes there once, in each direction and in both.
func TestHopsFromANodeToItself(t *testing.T) {
	expectHops(t, 1, "-[]->", [2]int{1, 1})
	expectHops(t, 1, "<-[]-", [2]int{0, 0}, [2]int{1, 1}, [2]int{3, 0}, [2]int{4, 0})
	expectHops(t, 1, "-[]-", [2]int{0, 0}, [2]int{1, 1}, [2]int{3, 0}, [2]int{4, 0})
	expectHops(t, 1, "-[:!%]-", [2]int{1, 1})
	expectHops(t, 1, "-[:%]->")
	full := sized(8, 14)
	for _, text := range []string{"-[]->", "<-[]-", "-[]-"} {
		hops := impl.HopsFrom(full, 7, elemOf(t, text))
		if len(hops) != 14 || len(impl.HopsFrom(full, 6, elemOf(t, text))) != 0 {
			t.Errorf("HopsFrom of %s with 14 edges from a node to itself = %v", text, hops)
		}
		for i, h := range hops {
			if h != (impl.Hop{Edge: i, To: 7}) {
				t.Errorf("HopsFrom of %s has %v in the place %d", text, h, i)
			}
		}
	}
}

func TestFitsAndHopsOfInvalidArguments(t *testing.T) {
	g := sampleGraph()
	for what, e := range brokenElems() {
		for i := -1; i <= 6; i++ {
			if impl.NodeFits(g, i, e) || impl.EdgeFits(g, i, e) || len(impl.HopsFrom(g, i, e)) != 0 {
				t.Errorf("%d fits %.80s", i, what)
			}
		}
	}
	for what, bad := range invalidGraphs() {
		for _, e := range plainElems(t) {
			for i := -1; i <= 15; i++ {
				if impl.NodeFits(bad, i, e) || impl.EdgeFits(bad, i, e) || len(impl.HopsFrom(bad, i, e)) != 0 {
					t.Errorf("%d of a graph with %s fits %s", i, what, impl.FormatElem(e))
				}
			}
		}
	}
	for _, i := range []int{-1, -2, -1 << 63, 6, 7, 1 << 40} {
		for _, e := range plainElems(t) {
			if impl.NodeFits(g, i, e) || impl.EdgeFits(g, i, e) || len(impl.HopsFrom(g, i, e)) != 0 {
				t.Errorf("%d, which is not there, fits %s", i, impl.FormatElem(e))
			}
		}
	}
}

// Nodes do not fit elements of edges, nor edges those of nodes.
func TestNodesAndEdgesAreKeptApart(t *testing.T) {
	g := sampleGraph()
	for i := range 6 {
		for _, text := range []string{"()", "(x)", "(?%)", "(:!%)"} {
			if impl.EdgeFits(g, i, elemOf(t, text)) || len(impl.HopsFrom(g, i, elemOf(t, text))) != 0 {
				t.Errorf("the edge %d fits %s", i, text)
			}
		}
		for _, text := range []string{"-[]->", "<-[]-", "-[]-", "-[x?%]-", "-[:!%]->"} {
			if impl.NodeFits(g, i, elemOf(t, text)) {
				t.Errorf("the node %d fits %s", i, text)
			}
		}
	}
}

func TestTurnElem(t *testing.T) {
	for text, want := range map[string]string{
		"()": "()", "(x:a|b?<5)": "(x:a|b?<5)", "-[]-": "-[]-", "-[e:r?=1]-": "-[e:r?=1]-", "-[]->": "<-[]-", "<-[]-": "-[]->",
		"-[e:!(a|b)&%?!<5]->": "<-[e:!(a|b)&%?!<5]-", "<-[abcdef?>98]-": "-[abcdef?>98]->",
	} {
		e, ok := impl.TurnElem(elemOf(t, text))
		if s := impl.FormatElem(e); !ok || s != want {
			t.Errorf("TurnElem of %s = %q, %v", text, s, ok)
		}
	}
	for _, x := range elemsWithTexts() {
		turned, ok := impl.TurnElem(x.e)
		again, ok2 := impl.TurnElem(turned)
		if !ok || !ok2 || !plainElemSame(again, x.e) || plainElemSame(turned, x.e) != (x.e.Dir == 0 || x.e.Dir == impl.DirAny) {
			t.Errorf("TurnElem of %s = %v, %v, and turned again %v, %v", x.text, turned, ok, again, ok2)
		}
	}
	for what, e := range brokenElems() {
		turned, ok := impl.TurnElem(e)
		expectNoElem(t, "TurnElem of "+what, turned, ok)
	}
}

// A turned element has in a turned graph the hops of the element.
func TestTurnedElemsHaveHopsOfTurnedGraphs(t *testing.T) {
	for _, e := range plainElems(t) {
		turned, ok := impl.TurnElem(e)
		if !ok {
			t.Fatalf("TurnElem of %s fails", impl.FormatElem(e))
		}
		for _, g := range graphsOfAllSizes() {
			back, _ := impl.TurnGraph(g)
			for node := range g.Nodes {
				if !slices.Equal(impl.HopsFrom(g, node, e), impl.HopsFrom(back, node, turned)) || impl.NodeFits(g, node, e) != impl.NodeFits(back, node, turned) {
					t.Errorf("%s and its turned one are not the same from %d in %v", impl.FormatElem(e), node, g)
				}
			}
		}
	}
}

// wipeElem writes over the expressions of an element, and over the memory
// behind them.
func wipeElem(e impl.Elem) {
	wipeExpr(e.Labels)
	wipeExpr(e.Cond)
}

// copiedElem returns an element in new memory.
func copiedElem(e impl.Elem) impl.Elem {
	e.Labels, e.Cond = copied(e.Labels), copied(e.Cond)
	return e
}

func TestElemsShareNoMemory(t *testing.T) {
	for _, x := range elemsWithTexts() {
		e := copiedElem(x.e)
		first, ok := impl.TurnElem(e)
		second, ok2 := impl.TurnElem(e)
		want := copiedElem(second)
		if !ok || !ok2 || !plainElemSame(e, x.e) {
			t.Errorf("TurnElem changes %s", x.text)
		}
		wipeElem(first)
		if !plainElemSame(second, want) || !plainElemSame(e, x.e) {
			t.Errorf("TurnElem of %s shares memory with its argument or another result", x.text)
		}
		wipeElem(e)
		if !plainElemSame(second, want) {
			t.Errorf("TurnElem of %s is in the memory of its argument", x.text)
		}
		first, second = elemOf(t, x.text), elemOf(t, x.text)
		wipeElem(first)
		if !plainElemSame(second, x.e) {
			t.Errorf("ParseElem(%q) shares memory with another result", x.text)
		}
	}
}

// Equal parts of a result are not in the same memory, nor in that behind the
// parts of the argument, which can be there even where there is no expression.
func TestTurnElemSharesNoMemoryWithin(t *testing.T) {
	part := not(anything)
	turned, ok := impl.TurnElem(impl.Elem{Labels: and(part, part), Cond: part, Dir: impl.DirLeft})
	wipeExpr(turned.Labels.Kids[0])
	if !ok || !plainSame(turned.Labels.Kids[1], not(anything)) || !plainSame(turned.Cond, not(anything)) {
		t.Errorf("parts of the result of TurnElem share memory: %v", turned)
	}
	behind := []impl.Expr{atom("mark")}
	none := impl.Expr{Kids: behind[:0]}
	leaf := impl.Expr{Op: impl.ExprAny, Kids: behind[:0]}
	for _, e := range []impl.Elem{{Node: true, Labels: none, Cond: none}, {Dir: impl.DirAny, Labels: leaf, Cond: not(leaf)}} {
		turned, ok := impl.TurnElem(e)
		wipeElem(turned)
		if !ok || !plainSame(behind[0], atom("mark")) {
			t.Errorf("TurnElem(%v) = %v, with memory of its argument", e, turned)
		}
	}
}

func TestReadingLeavesElemsAlone(t *testing.T) {
	for _, x := range elemsWithTexts() {
		// Behind the parts is more memory, with a mark, so that writing to it is seen.
		e, g := copiedElem(x.e), roomy()
		e.Labels.Kids = append(append([]impl.Expr{}, e.Labels.Kids...), atom("mark"))[:len(e.Labels.Kids)]
		impl.ElemValid(e)
		impl.ElemSame(e, e)
		impl.FormatElem(e)
		impl.NodeFits(g, 0, e)
		impl.EdgeFits(g, 0, e)
		hops := impl.HopsFrom(g, 0, e)
		want := slices.Clone(hops)
		for i := range hops {
			hops[i] = impl.Hop{Edge: -1, To: -1}
		}
		if !slices.Equal(impl.HopsFrom(g, 0, e), want) {
			t.Errorf("HopsFrom of %s shares memory with another result", x.text)
		}
		kids := e.Labels.Kids
		if !plainElemSame(e, x.e) || !plainSame(kids[:len(kids)+1][len(kids)], atom("mark")) || !impl.GraphSame(whole(g), whole(roomy())) {
			t.Errorf("a function that reads %s changes it, or the graph", x.text)
		}
	}
}
