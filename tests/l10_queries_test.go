package tests

import (
	"math"
	"math/rand"
	"regexp"
	"slices"
	"strconv"
	"strings"
	"testing"

	"loop.example/graphpatterns/impl"
)

// test returns a test by its text without the sign in front.
func test(text string) impl.Test {
	at := strings.IndexAny(text, "~<=")
	return impl.Test{A: text[:at], Op: 1 + strings.Index("~<=", text[at:at+1]), B: text[at+1:]}
}

// queryOf returns the query with a text, valid or not, without using the parser.
func queryOf(t *testing.T, text string) impl.Query {
	t.Helper()
	var q impl.Query
	for _, word := range strings.Fields(text) {
		if word[0] == '!' {
			q.Tests = append(q.Tests, test(word[1:]))
		} else {
			q.Pats = append(q.Pats, patOf(t, word))
		}
	}
	return q
}

// The plain functions are written without chapter 10, by the document, for
// testing it. They want patterns that are valid.

// plainKind returns what a variable stands for in a pattern.
func plainKind(p impl.Pat, name string) int {
	kind := impl.VarNone
	if p.Op == impl.PatElem && p.Elem.Var == name && name != "" {
		kind = impl.VarEdge
		if p.Elem.Node {
			kind = impl.VarNode
		}
	}
	for _, kid := range p.Kids {
		kind = max(kind, plainKind(kid, name))
	}
	if p.Op == impl.PatRep && kind != impl.VarNone {
		return impl.VarGroup
	}
	return kind
}

// plainQueryKind returns what a variable stands for in a valid query.
func plainQueryKind(q impl.Query, name string) int {
	kind := impl.VarNone
	for _, p := range q.Pats {
		kind = max(kind, plainKind(p, name))
	}
	return kind
}

// namesOf returns the variables of all patterns of a query, each once.
func namesOf(q impl.Query) []string {
	var names []string
	for _, p := range q.Pats {
		for _, part := range partsOf(p) {
			if part.Elem.Var != "" && !slices.Contains(names, part.Elem.Var) {
				names = append(names, part.Elem.Var)
			}
		}
	}
	return names
}

func plainQueryValid(q impl.Query) bool {
	if len(q.Pats) < 1 || len(q.Pats) > 3 || len(q.Tests) > 4 || slices.ContainsFunc(q.Pats, func(p impl.Pat) bool { return !plainPatValid(p) }) {
		return false
	}
	for _, name := range namesOf(q) {
		counts := map[int]int{}
		for _, p := range q.Pats {
			counts[plainKind(p, name)]++
		}
		in := len(q.Pats) - counts[impl.VarNone]
		if in > 1 && counts[impl.VarNode] != in && counts[impl.VarEdge] != in {
			return false
		}
	}
	for _, x := range q.Tests {
		a, b := plainQueryKind(q, x.A), plainQueryKind(q, x.B)
		if a != impl.VarNode && a != impl.VarEdge || b != impl.VarNode && b != impl.VarEdge || x.Op < 1 || x.Op > 3 || x.Op == 1 && a != b {
			return false
		}
	}
	return true
}

func plainQuerySame(a impl.Query, b impl.Query) bool {
	return slices.EqualFunc(a.Pats, b.Pats, plainPatSame) && slices.Equal(a.Tests, b.Tests)
}

// plainQueryText returns the text of a valid query.
func plainQueryText(q impl.Query) string {
	text := ""
	for _, p := range q.Pats {
		text += " " + impl.FormatPat(p)
	}
	for _, x := range q.Tests {
		text += " !" + x.A + map[int]string{1: "~", 2: "<", 3: "="}[x.Op] + x.B
	}
	return text[1:]
}

// queryShape matches a word and all words behind it, and testShape the text of a
// test.
var (
	queryShape = regexp.MustCompile(`(?s)^([^ ]*)(?: (.*))?$`)
	testShape  = regexp.MustCompile(`^!([a-z]{1,6})([~<=])([a-z]{1,6})$`)
)

// readQueryPlainly reads a query, word by word from the front.
func readQueryPlainly(text string) (impl.Query, bool) {
	var q impl.Query
	for {
		found := queryShape.FindStringSubmatch(text)
		if words := testShape.FindStringSubmatch(found[1]); words != nil {
			q.Tests = append(q.Tests, impl.Test{A: words[1], Op: map[string]int{"~": 1, "<": 2, "=": 3}[words[2]], B: words[3]})
		} else if p, ok := impl.ParsePat(found[1]); ok && len(q.Tests) == 0 {
			q.Pats = append(q.Pats, p)
		} else {
			return impl.Query{}, false
		}
		if len(found[1]) == len(text) {
			break
		}
		text = found[2]
	}
	if !plainQueryValid(q) {
		return impl.Query{}, false
	}
	return q, true
}

func plainJoin(a []impl.Bind, b []impl.Bind) ([]impl.Bind, bool) {
	list := slices.Clone(a)
	for i, bind := range b {
		front := slices.Concat(a, b[:i])
		at := slices.IndexFunc(front, func(other impl.Bind) bool { return other.Var == bind.Var })
		if at < 0 {
			list = append(list, bind)
		} else if !plainBindSame(front[at], bind) {
			return nil, false
		}
	}
	var sorted []impl.Bind
	for _, bind := range list {
		at := len(sorted)
		for at > 0 && sorted[at-1].Var > bind.Var {
			at--
		}
		sorted = slices.Insert(sorted, at, bind)
	}
	return sorted, true
}

// plainNum returns the number of the node or the edge that a variable stands for
// in a valid graph, with what it stands for and its place, and true.
func plainNum(g impl.Graph, q impl.Query, binds []impl.Bind, name string) (int, [2]int, bool) {
	kind := plainQueryKind(q, name)
	for _, bind := range binds {
		if bind.Var != name {
			continue
		}
		if bind.Group || len(bind.Ids) != 1 || bind.Ids[0] < 0 {
			return 0, [2]int{}, false
		}
		id := bind.Ids[0]
		if kind == impl.VarNode && id < len(g.Nodes) {
			return g.Nodes[id].Num, [2]int{kind, id}, true
		}
		if kind == impl.VarEdge && id < len(g.Edges) {
			return g.Edges[id].Num, [2]int{kind, id}, true
		}
		return 0, [2]int{}, false
	}
	return 0, [2]int{}, false
}

// plainHolds wants a valid graph and a valid query.
func plainHolds(g impl.Graph, q impl.Query, binds []impl.Bind, x impl.Test) bool {
	a, placeA, okA := plainNum(g, q, binds, x.A)
	b, placeB, okB := plainNum(g, q, binds, x.B)
	return okA && okB && (x.Op == 1 && placeA == placeB || x.Op == 2 && a < b || x.Op == 3 && a == b)
}

// rowText returns the text of the binds of a row.
func rowText(row []impl.Bind) string {
	return strings.TrimPrefix(strings.TrimPrefix(plainMatchText(impl.Match{Walk: walkOf(0), Binds: row}), "0"), " ")
}

// rowTexts returns the texts of rows.
func rowTexts(rows [][]impl.Bind) []string {
	var texts []string
	for _, row := range rows {
		texts = append(texts, rowText(row))
	}
	return texts
}

func rowSame(a []impl.Bind, b []impl.Bind) bool { return slices.EqualFunc(a, b, plainBindSame) }

func rowsSame(a [][]impl.Bind, b [][]impl.Bind) bool { return slices.EqualFunc(a, b, rowSame) }

// plainRows returns the rows of a valid query, given the matches of each of its
// patterns.
func plainRows(g impl.Graph, q impl.Query, lists [][]impl.Match) ([][]impl.Bind, bool) {
	rows := [][]impl.Bind{nil}
	for _, list := range lists {
		if len(list) > 400 {
			return nil, false
		}
	}
	for _, list := range lists {
		known := map[string]bool{}
		var joined [][]impl.Bind
		for _, row := range rows {
			for _, m := range list {
				if both, ok := plainJoin(row, m.Binds); ok && !known[rowText(both)] {
					known[rowText(both)] = true
					joined = append(joined, both)
				}
			}
		}
		if len(joined) > 400 {
			return nil, false
		}
		rows = joined
	}
	rows = slices.DeleteFunc(rows, func(row []impl.Bind) bool {
		return slices.ContainsFunc(q.Tests, func(x impl.Test) bool { return !plainHolds(g, q, row, x) })
	})
	slices.SortFunc(rows, func(a, b []impl.Bind) int {
		if plainBindsBefore(a, b) {
			return -1
		}
		return 1
	})
	return rows, true
}

// expectNoQuery fails unless q is the zero value, and ok is false.
func expectNoQuery(t *testing.T, what string, q impl.Query, ok bool) {
	t.Helper()
	if ok || len(q.Pats) != 0 || len(q.Tests) != 0 {
		t.Errorf("%.80s = %d patterns and %d tests, %v", what, len(q.Pats), len(q.Tests), ok)
	}
}

// expectNoRows fails unless RowsOf returns nothing, and false.
func expectNoRows(t *testing.T, what string, g impl.Graph, q impl.Query, mode int, most int) {
	t.Helper()
	if rows, ok := impl.RowsOf(g, q, mode, most); ok || len(rows) != 0 {
		t.Errorf("RowsOf of %.80s, %d and %d = %d rows, %v", what, mode, most, len(rows), ok)
	}
}

// expectInvalidQuery fails unless all functions find that a query is not valid.
func expectInvalidQuery(t *testing.T, what string, q impl.Query, names ...string) {
	t.Helper()
	if impl.QueryValid(q) {
		t.Errorf("QueryValid accepts %.80s", what)
	}
	if text := impl.FormatQuery(q); text != "" {
		t.Errorf("FormatQuery of %.80s = %.80q", what, text)
	}
	g := parsed(t, round)
	for _, name := range names {
		if kind := impl.VarKind(q, name); kind != 0 {
			t.Errorf("VarKind of %.80s and %q = %d", what, name, kind)
		}
		for op := 1; op <= 3; op++ {
			if impl.TestHolds(g, q, []impl.Bind{{Var: name, Ids: []int{0}}, {Var: "other", Ids: []int{1}}}, impl.Test{A: name, Op: op, B: name}) {
				t.Errorf("TestHolds accepts %.80s", what)
			}
		}
	}
	expectNoRows(t, what, g, q, 1, 2)
	expectNoRows(t, what, g, q, 2, 0)
}

// manyQueries returns queries of all kinds, more or less at random, but always
// the same ones, valid ones only or not.
func manyQueries(count int, valid bool) []impl.Query {
	random := rand.New(rand.NewSource(11))
	left := one(impl.Elem{Var: "f", Cond: atom("<4"), Dir: impl.DirLeft})
	pats := manyPats(200, []impl.Pat{node("x"), node("y"), node("x"), one(impl.Elem{Node: true, Var: "y", Labels: atom("a")}), aNode, edge("e"), edge("f"), left, anEdge})
	for _, p := range []impl.Pat{seq(node("x"), edge("e"), node("y")), seq(node("y"), left, node("z")), alt(node("x"), seq(node("y"), edge("f"))), rep(seq(edge("g"), node("n")), 0, 2), alt(node("z"), edge("e"), aNode), rep(edge("x"), 1, 2), seq(node("z"), inRep(edge("h")), node("x")), edge("y")} {
		pats = append(pats, slices.Repeat([]impl.Pat{p}, 12)...)
	}
	names := []string{"x", "y", "e", "f", "z", "x", "y", "e", "n", "g", ""}
	var list []impl.Query
	for len(list) < count {
		var q impl.Query
		for range 1 + len(list)%3 {
			q.Pats = append(q.Pats, pats[random.Intn(len(pats))])
		}
		for range random.Intn(5) * random.Intn(2) {
			q.Tests = append(q.Tests, impl.Test{A: names[random.Intn(len(names))], Op: 1 + random.Intn(3), B: names[random.Intn(len(names))]})
		}
		if !valid || plainQueryValid(q) {
			list = append(list, q)
		}
	}
	return list
}

func TestQueryValid(t *testing.T) {
	for text, want := range map[string]bool{
		"()": true, "(x)": true, "-[e]->": true, "{-[e]->}*": true, "() ()": true, "(x) (y) (z)": true, "(x) (x) (x)": true, "-[e]-> <-[e]- -[e]-": true, "() () () ()": false, "(x) (x) (x) (x)": false,
		"(x)-[e]->(y) (y)-[f]->(z) !x~z": true, "(x:a) (y:a) !x<y": true, "(x)-[e]->(y) !y=e": true, "(x)-[e]->(y) !y<e": true, "(x){-[e]->(n)}*(y) (x)-[f]->()": true,
		// A variable of several patterns stands for nodes, or for edges.
		"(x) -[x]->": false, "-[x]-> (x)": false, "(x) () -[x]->": false, "(x) (x) -[x]->": false, "-[e]- (x) -[e]->": true, "(x)-[e]-(y) (y)-[e]-(x) (e)": false, "(x)-[e]-(y) (y)-[e]-(x) (x)-[f]-": true,
		// One that stands for a group is in no other one.
		"{-[e]->}* -[e]->": false, "-[e]-> {-[e]->}*": false, "{-[e]->}* {-[e]->}*": false, "{-[e]->}* () {-[e]->}*": false, "{-[e]->(n)}* (n)": false, "(n) () {-[e]->(n)}*": false, "{-[e]->}* (e)": false, "{{-[e]->}+}+ -[f]-{-[e]->}+": false, "{-[e]->}* {-[f]->}* {-[g]->}*": true, "{-[e]->}* -[f]-> -[f]->": true,
		// Tests are of variables that stand for a node or an edge.
		"(x) !x~x": true, "(x) !x<x": true, "(x) !x=x": true, "-[e]-> !e~e": true, "-[e]-> !e<e": true, "-[e]-> !e=e": true, "(x)-[e]-> !x~e": false, "(x)-[e]-> !e~x": false, "(x)-[e]-> !x<e": true, "(x)-[e]-> !e<x": true, "(x)-[e]-> !x=e": true, "(x)-[e]-> !e=x": true,
		"(x) !x<q": false, "(x) !q<x": false, "(x) !q<q": false, "() !x~x": false, "{-[e]->}* !e~e": false, "{-[e]->}* !e<e": false, "{-[e]->}* !e=e": false, "{-[e]->(n)}*(x) !x~n": false, "{-[e]->(n)}*(x) !n=x": false, "{-[e]->}*-[f]-> !e<f": false, "{-[e]->}*-[f]-> !f~f": true,
		"(x) (y) !x~y": true, "(x) (y) (z) !z<x": true, "(x) -[e]- !x~e": false, "(x) -[e]- !x=e": true, "-[e]- () -[f]- !e~f": true, "(x) {-[e]->}* !x<e": false, "{(x)|-[e]->} !x<e": true, "{(x)|(y)} !x~y": true, "{(x)|-[e]->} !x~e": false,
		"(x) !x~x !x<x !x=x !x~x": true, "(x) !x~x !x<x !x=x !x~x !x~x": false, "(x) (y) (z) !x~y !y~z !z~x !x<z": true, "(x) !x~x !x<q": false, "(x) !x~q !x<x": false, "(x) (y) !x~y !y~x !x=z": false,
	} {
		q := queryOf(t, text)
		if got := impl.QueryValid(q); got != want || plainQueryValid(q) != want {
			t.Errorf("QueryValid(%s) = %v", text, got)
		}
		if !want {
			expectInvalidQuery(t, text, q, "x", "e", "n", "q", "")
		}
	}
	if impl.QueryValid(impl.Query{}) || impl.QueryValid(impl.Query{Pats: []impl.Pat{}, Tests: []impl.Test{}}) {
		t.Error("QueryValid accepts no patterns")
	}
	if impl.TestSame != 1 || impl.TestLess != 2 || impl.TestEqual != 3 || impl.VarNone != 0 || impl.VarNode != 1 || impl.VarEdge != 2 || impl.VarGroup != 3 {
		t.Error("the constants of queries have other values")
	}
}

func TestQueryValidWithinLimits(t *testing.T) {
	for _, p := range []impl.Pat{aNode, node("x"), edge("x"), patOf(t, "(x)-[e]->(y)")} {
		for pats := range 8 {
			q := impl.Query{Pats: slices.Repeat([]impl.Pat{p}, pats)}
			if got := impl.QueryValid(q); got != (pats >= 1 && pats <= 3) {
				t.Errorf("QueryValid of %d patterns = %v", pats, got)
			}
			if pats < 1 || pats > 3 {
				expectInvalidQuery(t, number(pats)+" patterns", q, "x")
			}
		}
	}
	for pats := 1; pats <= 3; pats++ {
		for tests := range 10 {
			q := impl.Query{Pats: slices.Repeat([]impl.Pat{node("x")}, pats), Tests: slices.Repeat([]impl.Test{test("x=x")}, tests)}
			if got := impl.QueryValid(q); got != (tests <= 4) {
				t.Errorf("QueryValid of %d tests = %v", tests, got)
			}
			if tests > 4 {
				expectInvalidQuery(t, number(tests)+" tests", q, "x")
			}
		}
	}
	for _, many := range []int{100, 1 << 8, 1 << 16, 1 << 20} {
		expectInvalidQuery(t, "many patterns", impl.Query{Pats: make([]impl.Pat, many)}, "x")
		expectInvalidQuery(t, "many equal patterns", impl.Query{Pats: slices.Repeat([]impl.Pat{node("x")}, many)}, "x")
		expectInvalidQuery(t, "many tests", impl.Query{Pats: []impl.Pat{node("x")}, Tests: slices.Repeat([]impl.Test{test("x=x")}, many)}, "x")
	}
	// Patterns and variables can be as large as they can be alone.
	large := seq(slices.Repeat([]impl.Pat{node("abcdef")}, 23)...)
	if !impl.QueryValid(impl.Query{Pats: []impl.Pat{large, large, large}, Tests: []impl.Test{test("abcdef~abcdef")}}) {
		t.Error("QueryValid does not accept large patterns")
	}
}

// Each Op, and those beside them, with variables of all kinds and with what is
// none.
func TestQueryValidOfTests(t *testing.T) {
	pats := []impl.Pat{patOf(t, "(x)-[e]->(y){-[g]->(n)}*"), patOf(t, "{-[f]->|(x)}")}
	kinds := map[string]int{"x": 1, "y": 1, "e": 2, "f": 2, "g": 3, "n": 3, "z": 0, "": 0, "X": 0, "xy": 0, "x ": 0, "x\x00": 0, "ee": 0, "abcdefg": 0}
	for _, op := range []int{math.MinInt, -1 << 32, -3, -2, -1, 0, 1, 2, 3, 4, 5, 6, 1<<8 + 1, 1<<32 + 1, 1<<32 + 2, math.MaxInt} {
		for a, kindA := range kinds {
			for b, kindB := range kinds {
				single := (kindA == 1 || kindA == 2) && (kindB == 1 || kindB == 2)
				want := single && (op == 2 || op == 3 || op == 1 && kindA == kindB)
				bad := impl.Test{A: a, Op: op, B: b}
				for _, tests := range [][]impl.Test{{bad}, {test("x~y"), bad}, {bad, test("e<f"), test("e=x")}, {test("e<f"), test("e=x"), test("x~x"), bad}} {
					q := impl.Query{Pats: pats, Tests: tests}
					if got := impl.QueryValid(q); got != want {
						t.Errorf("QueryValid with the test %v = %v", bad, got)
					}
					if !want && len(tests) == 1 {
						expectInvalidQuery(t, strconv.Itoa(op)+" of "+a+" and "+b, q, "x", a)
					}
				}
			}
		}
	}
}

// A variable can be in each of three patterns, as a node, an edge, or in a
// repetition.
func TestQueryValidOfVariablesOfSeveralPatterns(t *testing.T) {
	places := map[string]string{"()": "none", "(w)-[u]->": "none", "(v)": "node", "{-[]->|(v:a)}": "node", "-[v]->": "edge", "(w)<-[v:r]-": "edge", "{-[v]->}+": "group", "{-[]->(v)}*": "group", "{{-[]->{-[v]-}?}+}+": "group"}
	count := 0
	for first, a := range places {
		for second, b := range places {
			for third, c := range places {
				found := slices.DeleteFunc([]string{a, b, c}, func(place string) bool { return place == "none" })
				want := len(found) < 2 || found[0] != "group" && !slices.ContainsFunc(found, func(place string) bool { return place != found[0] })
				q := impl.Query{Pats: []impl.Pat{patOf(t, first), patOf(t, second), patOf(t, third)}}
				if got := impl.QueryValid(q); got != want {
					t.Errorf("QueryValid of %s %s %s = %v", first, second, third, got)
				}
				if !want {
					expectInvalidQuery(t, first+" "+second+" "+third, q, "v", "w", "u")
					continue
				}
				count++
				kind := 0
				if len(found) > 0 {
					kind = map[string]int{"node": 1, "edge": 2, "group": 3}[found[0]]
				}
				if got := impl.VarKind(q, "v"); got != kind {
					t.Errorf("VarKind of %s %s %s and v = %d", first, second, third, got)
				}
				q.Tests = []impl.Test{test("v=v")}
				if got := impl.QueryValid(q); got != (kind == 1 || kind == 2) {
					t.Errorf("QueryValid of %s %s %s !v=v = %v", first, second, third, got)
				}
			}
		}
	}
	if count < 80 {
		t.Errorf("only %d queries are valid", count)
	}
}

func TestQueriesOfInvalidPats(t *testing.T) {
	for what, p := range brokenPats() {
		for _, pats := range [][]impl.Pat{{p}, {p, aNode}, {aNode, p}, {node("x"), edge("e"), p}, {p, node("x"), edge("e")}, {node("x"), p, p}} {
			for _, tests := range [][]impl.Test{nil, {test("x=x")}} {
				expectInvalidQuery(t, "a query with "+what, impl.Query{Pats: pats, Tests: tests}, "x", "e")
			}
		}
	}
}

func TestQueryValidOfManyQueries(t *testing.T) {
	valid := 0
	for _, q := range manyQueries(6000, false) {
		want := plainQueryValid(q)
		if got := impl.QueryValid(q); got != want {
			t.Errorf("QueryValid(%v) = %v", q, got)
		}
		if want {
			valid++
			if text := impl.FormatQuery(q); text != plainQueryText(q) {
				t.Errorf("FormatQuery = %q, not %q", text, plainQueryText(q))
			}
		} else if impl.FormatQuery(q) != "" {
			t.Errorf("FormatQuery(%v) = %q", q, impl.FormatQuery(q))
		}
	}
	if valid < 1000 || valid > 5000 {
		t.Errorf("%d queries are valid", valid)
	}
}

func TestQuerySame(t *testing.T) {
	texts := []string{
		"()", "(x)", "(y)", "(x) (y)", "(y) (x)", "(x) (x)", "(x) (y) (z)", "(x)(y)", "-[e]->", "-[e]-", "{-[e]->}*", "{-[e]->}+", "(x) !x~x", "(x) !x<x", "(x) !x=x", "(x) !x~x !x~x", "(x) !x~x !x<x", "(x) !x<x !x~x",
		"(x) (y) !x~y", "(x) (y) !y~x", "(x) (y) !x<y", "(x) (y) !x=y", "(y) (x) !x~y", "(x) (y) !x~x", "(x) (y) !y~y",
	}
	for i, a := range texts {
		for j, b := range texts {
			p, q := queryOf(t, a), queryOf(t, b)
			if got := impl.QuerySame(p, q); got != (i == j) {
				t.Errorf("QuerySame of %s and %s = %v", a, b, got)
			}
		}
	}
	if !impl.QuerySame(impl.Query{}, impl.Query{Pats: []impl.Pat{}, Tests: []impl.Test{}}) || impl.QuerySame(impl.Query{}, queryOf(t, "()")) || impl.QuerySame(queryOf(t, "()"), impl.Query{}) {
		t.Error("QuerySame is wrong for no patterns")
	}
	list := manyQueries(300, false)
	for i, a := range list {
		for _, b := range list[:i+1] {
			if got, want := impl.QuerySame(a, b), plainQuerySame(a, b); got != want || impl.QuerySame(b, a) != want {
				t.Fatalf("QuerySame of %v and %v = %v", a, b, got)
			}
		}
		if again := (impl.Query{Pats: slices.Clone(a.Pats), Tests: append([]impl.Test{}, a.Tests...)}); !impl.QuerySame(a, again) {
			t.Errorf("QuerySame distinguishes %v from its copy", a)
		}
	}
}

func TestQuerySameAcceptsInvalidQueries(t *testing.T) {
	again := brokenPats()
	for what, p := range brokenPats() {
		q := impl.Query{Pats: []impl.Pat{aNode, p, p, p}, Tests: []impl.Test{{}}}
		same := impl.Query{Pats: []impl.Pat{aNode, again[what], p, again[what]}, Tests: []impl.Test{{}}}
		other := impl.Query{Pats: []impl.Pat{aNode, p, aNode, p}, Tests: []impl.Test{{}}}
		less := impl.Query{Pats: []impl.Pat{aNode, p, p}, Tests: []impl.Test{{}}}
		if !impl.QuerySame(q, same) || !impl.QuerySame(q, q) || impl.QuerySame(q, other) || impl.QuerySame(other, q) || impl.QuerySame(q, less) || impl.QuerySame(less, q) {
			t.Errorf("QuerySame is wrong for %.80s", what)
		}
	}
	tests := []impl.Test{{}, {A: "x"}, {B: "x"}, {Op: 1}, {Op: 4}, {Op: math.MinInt}, {A: "x", B: "x"}, {A: "X", B: "x"}, {A: "x", Op: 1 << 32, B: "x"}, {A: "\xff"}, {A: strings.Repeat("x", 1000)}}
	for i, a := range tests {
		for j, b := range tests {
			p, q := impl.Query{Tests: slices.Repeat([]impl.Test{a}, 9)}, impl.Query{Tests: append(slices.Repeat([]impl.Test{a}, 8), b)}
			if got := impl.QuerySame(p, q); got != (i == j) {
				t.Errorf("QuerySame with the tests %v and %v = %v", a, b, got)
			}
		}
	}
	many := impl.Query{Pats: slices.Repeat([]impl.Pat{patLooped(impl.PatSeq)}, 1000), Tests: make([]impl.Test, 100000)}
	if !impl.QuerySame(many, many) || impl.QuerySame(many, impl.Query{Pats: many.Pats[1:], Tests: many.Tests}) || impl.QuerySame(many, impl.Query{Pats: many.Pats, Tests: many.Tests[1:]}) {
		t.Error("QuerySame is wrong for many patterns and tests")
	}
}

// queryTexts are texts that FormatQuery writes.
var queryTexts = []string{
	"()", "(x)", "-[]->", "(x)-[e]->(y) (y)-[f]->(z) !x~z", "(x:a) (y:a) !x<y", "(x)-[e]->(y) !y=e", "(x)-[e]->(y) !y<e", "(x:b){-[e]->}+(y) (y:a)-[:r]->()", "(x){-[e]->(n)}*(y) (x)-[f]->()",
	"() ()", "() () ()", "(x) (x) (x) !x~x !x<x !x=x !x~x", "-[e]-> <-[e]- -[e]- !e~e", "<-[]- -[]->", "{()|-[e]->} {-[f]->}* (x:!(a|b)&%?!<5)", "(abcdef) (abcdeg) !abcdef~abcdeg !abcdeg~abcdef", "{-[]->|<-[]-}^2,3 {{-[e]->}+|(x)} !x=x",
	"(x)(y) (y)(z) (z)(x) !x<y !y<z !z<x", "(x:a?<5)-[e:r|s?=3]->(y) -[e]- !e=x", "-[e]->{(x)|(y)} {(y)|-[f]-} !x~y !e~f !y=f !f<x",
}

func TestFormatQuery(t *testing.T) {
	for _, text := range queryTexts {
		if got := impl.FormatQuery(queryOf(t, text)); got != text {
			t.Errorf("FormatQuery = %q, not %q", got, text)
		}
	}
	// Patterns are written in the shortest way.
	q := impl.Query{Pats: []impl.Pat{rep(alt(edge("e"), anEdge), 0, -1), rep(edge("f"), 2, 2), node("x")}, Tests: []impl.Test{{A: "x", Op: 1, B: "x"}}}
	if got := impl.FormatQuery(q); got != "{-[e]->|-[]->}* {-[f]->}^2,2 (x) !x~x" {
		t.Errorf("FormatQuery = %q", got)
	}
}

// Each query has a text of its own, by which it is read back.
func TestQueriesAreReadBack(t *testing.T) {
	texts := map[string]impl.Query{}
	list := manyQueries(3000, true)
	for _, text := range queryTexts {
		list = append(list, queryOf(t, text))
	}
	for _, x := range patsWithTexts() {
		list = append(list, impl.Query{Pats: []impl.Pat{x.p}}, impl.Query{Pats: []impl.Pat{aNode, x.p}}, impl.Query{Pats: []impl.Pat{x.p, edge("other"), node("x")}})
	}
	for _, q := range list {
		if !plainQueryValid(q) {
			continue
		}
		text := impl.FormatQuery(q)
		again, ok := impl.ParseQuery(text)
		if !ok || !plainQuerySame(again, q) || !impl.QuerySame(again, q) || impl.FormatQuery(again) != text {
			t.Errorf("ParseQuery(%q) = %v, %v, not %v", text, again, ok, q)
		}
		if other, known := texts[text]; known && !plainQuerySame(other, q) {
			t.Errorf("two queries have the text %q", text)
		}
		texts[text] = q
	}
	if len(texts) < 1500 {
		t.Errorf("there are only %d texts", len(texts))
	}
}

// Patterns can be written in each way that ParsePat reads.
func TestParseQueryOfLongerTexts(t *testing.T) {
	for text, want := range map[string]string{
		"{-[e]->}^0, (x:((a)|b)) !x~x": "{-[e]->}* (x:a|b) !x~x", "{{-[]->|<-[]-}}+ {-[]->}^1, {-[]->}^0,1": "{-[]->|<-[]-}+ {-[]->}+ {-[]->}?", "(x?(!(<5)))-[e:(r)]-> -[e:((((s))))]- !e=x !x<e": "(x?!<5)-[e:r]-> -[e:s]- !e=x !x<e",
		"(:" + inBrackets("a", 39) + ") ()": "(:a) ()",
	} {
		q, ok := impl.ParseQuery(text)
		if got := impl.FormatQuery(q); !ok || got != want || !plainQuerySame(q, queryOf(t, text)) {
			t.Errorf("ParseQuery(%q) = %q, %v, not %q", text, got, ok, want)
		}
	}
}

func TestParseQueryWithinLimits(t *testing.T) {
	for pats := range 12 {
		for tests := range 12 {
			text := strings.Join(slices.Concat(slices.Repeat([]string{"(x)"}, pats), slices.Repeat([]string{"!x=x"}, tests)), " ")
			q, ok := impl.ParseQuery(text)
			if want := pats >= 1 && pats <= 3 && tests <= 4; ok != want {
				t.Errorf("ParseQuery(%q) = %v, %v", text, q, ok)
			} else if want && (len(q.Pats) != pats || len(q.Tests) != tests) {
				t.Errorf("ParseQuery(%q) = %v", text, q)
			} else if !want {
				expectNoQuery(t, text, q, ok)
			}
		}
	}
	for text, want := range map[string]bool{
		"(abcdef) !abcdef~abcdef": true, "(abcdefg) !abcdefg~abcdefg": false, "(abcdef) !abcdefg~abcdef": false, "(abcdef) !abcdef~abcde": false, "() " + strings.Repeat("(x)", 23): true, "() " + strings.Repeat("(x)", 24): false, strings.Repeat("(x)", 23) + " " + strings.Repeat("(x)", 23) + " " + strings.Repeat("(y)", 23) + " !x~y": true,
		"(:" + inBrackets("a", 40) + ") ()": false, "() {-[]->}^9,9": true, "() {-[]->}^9,10": false,
	} {
		if q, ok := impl.ParseQuery(text); ok != want {
			t.Errorf("ParseQuery(%.80q) = %v, %v", text, q, ok)
		}
	}
}

func TestParseQueryOfOtherTexts(t *testing.T) {
	many := 1000000
	for _, text := range []string{
		"", " ", "  ", "(x) ", " (x)", "(x)  (y)", "(x)  !x~x", "(x) !x~x ", "(x) !x~x  !x~x", "(x)\t(y)", "(x)\n(y)", "(x)\n", "(x)\x00", "(x),(y)", "(x);(y)", "(x)\u00a0(y)", "(x)+(y)",
		"!", "!x~x", "!x<x (x)", "(x) !x~x (y)", "(x) !x~x (x) !x~x", "() !", "(x) !x", "(x) !x~", "(x) !~x", "(x) !~", "(x) !x~~x", "(x) !x~x~x", "(x) !x<~x", "(x) !x~<x", "(x) !x=~x", "(x) !x==x", "(x) !x<=x", "(x) !x>x", "(x) !x!x", "(x) !x&x", "(x) !x?x", "(x) !xx", "(x) x~x", "(x) ~x", "(x) x", "(x)!x~x", "(x) !x~x!x~x", "(x) !x~x,x~x",
		"(x) !!x~x", "(x) ! x~x", "(x) !x ~x", "(x) !x~ x", "(x) !(x)~(x)", "(x) !x~(x)", "(x) !x<5", "(x) !5<x", "(x) !x~x;", "(x) !x~X", "(X)", "(x) !X~x", "(x) !x~x\n", "(x) !x~\xff", "(x) !\xff~x", "(x) !x\x00~x", "(x) !x~x\x00", "(x) !x~y", "(x) !x<q", "(x) !q=x", "() !x~x", "(x)-[e]->() !x~e", "(x)-[e]->() !e~x",
		"(x) -[x]->", "(x) (y)-[x]->()", "{-[e]->}* !e<e", "{-[e]->}* -[e]->", "{-[e]->}* {-[e]->}*", "(n) {-[]->(n)}*", "(x) (x) (x) (x)", "() () () ()", "(x) !x=x !x=x !x=x !x=x !x=x", "(x) (", "( x)", "(x", "x)", "(x) -[e]-> -", "(x) {-[]->}", "{(x) |(y)}", "{(x)| (y)}", "{-[]->} +", "{-[]->}^1, 2", "(x:a| b)", "(x ?<5)",
		strings.Repeat("() ", many), strings.Repeat("() ", many) + "()", strings.Repeat(" ", many), "(x) " + strings.Repeat("!x~x ", many) + "!x~x", strings.Repeat("!", many), strings.Repeat("! ", many), "(x) !" + strings.Repeat("x", many) + "~x", "(x) !x~" + strings.Repeat("x", many), "(x) !x" + strings.Repeat("~", many) + "x", strings.Repeat("(", many) + " ()", "() " + strings.Repeat("{", many), "(x) !x~x" + strings.Repeat(" ", many),
	} {
		q, ok := impl.ParseQuery(text)
		expectNoQuery(t, "ParseQuery of "+text, q, ok)
	}
}

// expectQueryReading fails unless a text is read as readQueryPlainly reads it,
// and reports whether there is such a query.
func expectQueryReading(t *testing.T, text string) bool {
	t.Helper()
	want, wanted := readQueryPlainly(text)
	q, ok := impl.ParseQuery(text)
	if ok != wanted || !plainQuerySame(q, want) {
		t.Fatalf("ParseQuery(%q) = %v, %v, not %v, %v", text, q, ok, want, wanted)
	}
	return ok
}

// Each short text is read as the document says, or not at all.
func TestParseQueryOfAllShortTexts(t *testing.T) {
	for _, x := range []struct {
		front, behind string
		tokens        []string
		length, least int
	}{
		{"", "", []string{"(x)", " ", "-[e]->", "{-[x]->}+", "!x=e", "!x~x"}, 6, 100},
		{"(x)-[e]->", "", []string{" ", "!", "x", "e", "~", "<", "="}, 6, 10},
		{"(x) (y)", "", []string{" (z)", " (x)", " !x~y", " !z<x", " ", " !y=y"}, 6, 150},
	} {
		count := 0
		for _, text := range shortTexts(x.tokens, x.length) {
			if expectQueryReading(t, x.front+text+x.behind) {
				count++
			}
		}
		if count < x.least {
			t.Errorf("only %d texts with %q are those of queries", count, x.front)
		}
	}
}

// A text that differs in one byte is that of another query, or of none.
func TestParseQueryOfChangedTexts(t *testing.T) {
	for _, text := range []string{"(x)-[e]->(y) (y)-[f]->(z) !x~z", "(x:a?<5) {-[e:r]->}+ (xx) !x<xx !xx=x", "-[e]-{-[f]->(n)}^2, -[e]-> !e~e !e=e !e<e !e~e"} {
		count := 0
		for _, changed := range changedTexts(text) {
			if expectQueryReading(t, changed) {
				count++
			}
		}
		if count < 50 {
			t.Errorf("only %d changed texts of %s are those of queries", count, text)
		}
	}
}

func TestVarKind(t *testing.T) {
	for _, x := range []struct {
		text, name string
		want       int
	}{
		{"(x){-[e]->(n)}*(y) (x)-[f]->()", "x", 1}, {"(x){-[e]->(n)}*(y) (x)-[f]->()", "y", 1}, {"(x){-[e]->(n)}*(y) (x)-[f]->()", "e", 3}, {"(x){-[e]->(n)}*(y) (x)-[f]->()", "n", 3}, {"(x){-[e]->(n)}*(y) (x)-[f]->()", "f", 2}, {"(x){-[e]->(n)}*(y) (x)-[f]->()", "z", 0},
		{"()", "", 0}, {"()", "x", 0}, {"-[]->", "", 0}, {"{-[]->}*", "", 0}, {"(x)", "", 0}, {"(x)", "X", 0}, {"(x)", "xx", 0}, {"(xx)", "x", 0}, {"(xx)", "xx", 1}, {"(x:a)", "a", 0}, {"<-[e]-", "e", 2}, {"-[e]-", "e", 2}, {"{{-[e]->}+}+", "e", 3}, {"{-[e]->}^1,1", "e", 3},
		{"{(x)|-[e]->}", "x", 1}, {"{(x)|-[e]->}", "e", 2}, {"() () (x)", "x", 1}, {"() (x) ()", "x", 1}, {"() () {-[]-(x)}+", "x", 3}, {"(x) (x) (x) !x~x", "x", 1}, {"(abcdef)", "abcdef", 1}, {"(abcdef)", "abcdefg", 0}, {"(x)", "x\x00", 0}, {"(x)", "\xff", 0}, {"(x) -[y]->{-[z]->}*", "y", 2}, {"(x) -[y]->{-[z]->}*", "z", 3},
	} {
		if got := impl.VarKind(queryOf(t, x.text), x.name); got != x.want {
			t.Errorf("VarKind(%s, %q) = %d, not %d", x.text, x.name, got, x.want)
		}
	}
	counts := [4]int{}
	for _, q := range manyQueries(1500, true) {
		for _, name := range append(namesOf(q), "", "none", "x", "e", "a") {
			got := impl.VarKind(q, name)
			if got != plainQueryKind(q, name) {
				t.Errorf("VarKind(%s, %q) = %d", impl.FormatQuery(q), name, got)
			}
			counts[got]++
		}
	}
	if slices.Min(counts[:]) < 200 {
		t.Errorf("the kinds are there %v times", counts)
	}
	// The variables outside of repetitions are those that stand for one thing.
	for _, x := range patsWithTexts() {
		q := impl.Query{Pats: []impl.Pat{x.p}}
		for _, within := range []bool{false, true} {
			for _, name := range impl.VarsOf(x.p, within) {
				if kind := impl.VarKind(q, name); (kind == 3) != within || kind == 0 {
					t.Errorf("VarKind(%s, %s) = %d", x.text, name, kind)
				}
			}
		}
	}
}

// bind returns a bind that is no group.
func bind(name string, ids ...int) impl.Bind { return impl.Bind{Var: name, Ids: ids} }

// group returns a bind that is a group.
func group(name string, ids ...int) impl.Bind {
	return impl.Bind{Var: name, Ids: ids, Group: true}
}

// expectJoin fails unless JoinBinds returns what the document says.
func expectJoin(t *testing.T, a []impl.Bind, b []impl.Bind) bool {
	t.Helper()
	want, wanted := plainJoin(a, b)
	got, ok := impl.JoinBinds(a, b)
	if ok != wanted || !rowSame(got, want) {
		t.Fatalf("JoinBinds of %q and %q = %q, %v, not %q, %v", rowText(a), rowText(b), rowText(got), ok, rowText(want), wanted)
	}
	return ok
}

func TestJoinBinds(t *testing.T) {
	type binds = []impl.Bind
	for _, x := range []struct {
		a, b binds
		want binds
	}{
		{nil, nil, binds{}}, {binds{bind("x", 1)}, nil, binds{bind("x", 1)}}, {nil, binds{bind("x", 1)}, binds{bind("x", 1)}}, {binds{}, binds{}, binds{}},
		{binds{bind("y", 1)}, binds{bind("x", 0), bind("y", 1)}, binds{bind("x", 0), bind("y", 1)}}, {binds{bind("x", 0)}, binds{bind("y", 0)}, binds{bind("x", 0), bind("y", 0)}}, {binds{bind("y", 0)}, binds{bind("x", 0)}, binds{bind("x", 0), bind("y", 0)}},
		{binds{bind("x", 0)}, binds{bind("x", 0)}, binds{bind("x", 0)}}, {binds{bind("x", 0)}, binds{bind("x", 1)}, nil}, {binds{bind("x", 0)}, binds{group("x", 0)}, nil}, {binds{group("x", 0)}, binds{bind("x", 0)}, nil}, {binds{group("x", 0)}, binds{group("x", 0)}, binds{group("x", 0)}},
		{binds{group("x")}, binds{bind("x")}, nil}, {binds{bind("x")}, binds{bind("x")}, binds{bind("x")}}, {binds{group("x")}, binds{group("x")}, binds{group("x")}}, {binds{group("x", 0, 1)}, binds{group("x", 1, 0)}, nil}, {binds{group("x", 0, 1)}, binds{group("x", 0)}, nil}, {binds{group("x", 0)}, binds{group("x", 0, 1)}, nil}, {binds{group("x", 0, 1)}, binds{group("x", 0, 1)}, binds{group("x", 0, 1)}},
		// Names are in order by bytes.
		{binds{bind("b", 1), bind("ab", 2)}, binds{bind("aa", 3), bind("a", 4), bind("B", 5), bind("", 6)}, binds{bind("", 6), bind("B", 5), bind("a", 4), bind("aa", 3), bind("ab", 2), bind("b", 1)}},
		{binds{bind("é", 1), bind("\xff", 2)}, binds{bind("z", 3), bind("\x00", 4), bind("~", 5)}, binds{bind("\x00", 4), bind("z", 3), bind("~", 5), bind("é", 1), bind("\xff", 2)}},
		// All binds of the first list stay, even if they are not the same; the first one counts.
		{binds{bind("x", 1), bind("x", 2), bind("x", 1)}, nil, binds{bind("x", 1), bind("x", 2), bind("x", 1)}}, {binds{bind("x", 1), bind("x", 2)}, binds{bind("x", 1)}, binds{bind("x", 1), bind("x", 2)}}, {binds{bind("x", 1), bind("x", 2)}, binds{bind("x", 2)}, nil},
		{binds{bind("x", 1), bind("y", 0), bind("x", 2)}, binds{bind("x", 1), bind("a", 5), bind("x", 1)}, binds{bind("a", 5), bind("x", 1), bind("x", 2), bind("y", 0)}}, {binds{bind("y", 3), bind("x", 2), bind("y", 1), bind("x", 4)}, nil, binds{bind("x", 2), bind("x", 4), bind("y", 3), bind("y", 1)}},
		// Of the second list, those that are there again must be the same.
		{nil, binds{bind("x", 1), bind("x", 1)}, binds{bind("x", 1)}}, {nil, binds{bind("x", 1), bind("x", 2)}, nil}, {nil, binds{bind("x", 1), bind("y", 2), bind("x", 1), bind("y", 2)}, binds{bind("x", 1), bind("y", 2)}}, {binds{bind("y", 0)}, binds{bind("x", 1), bind("x", 1), bind("x", 2)}, nil}, {nil, binds{bind("x", 1), group("x", 1)}, nil},
	} {
		got, ok := impl.JoinBinds(x.a, x.b)
		if ok != (x.want != nil) || !rowSame(got, x.want) {
			t.Errorf("JoinBinds of %q and %q = %q, %v, not %q", rowText(x.a), rowText(x.b), rowText(got), ok, rowText(x.want))
		}
		expectJoin(t, x.a, x.b)
	}
	empty := impl.Bind{Var: "x", Ids: []int{}}
	if got, ok := impl.JoinBinds([]impl.Bind{{Var: "x"}}, []impl.Bind{empty}); !ok || !rowSame(got, []impl.Bind{empty}) {
		t.Errorf("JoinBinds distinguishes nil and empty Ids: %v, %v", got, ok)
	}
}

func TestJoinBindsOfAllShortLists(t *testing.T) {
	parts := []impl.Bind{bind("x", 1), bind("x", 2), group("x", 1), bind("y", 1), bind("y"), bind("a", 2, 1)}
	lists := [][]impl.Bind{nil}
	for from := 0; len(lists[from]) < 3; from++ {
		for _, part := range parts {
			lists = append(lists, append(slices.Clone(lists[from]), part))
		}
	}
	joins := 0
	for _, a := range lists {
		for _, b := range lists {
			if expectJoin(t, a, b) {
				joins++
			}
		}
	}
	if joins < 5000 || joins > len(lists)*len(lists)/2 {
		t.Errorf("%d of %d lists join", joins, len(lists)*len(lists))
	}
}

func TestJoinBindsOfManyLists(t *testing.T) {
	random := rand.New(rand.NewSource(12))
	joins := 0
	for range 3000 {
		var lists [2][]impl.Bind
		for i := range lists {
			for range random.Intn(30) {
				name := string([]byte{byte(random.Intn(256)), byte('a' + random.Intn(3))}[:random.Intn(3)])
				lists[i] = append(lists[i], impl.Bind{Var: name, Ids: slices.Repeat([]int{len(name)}, len(name)%3), Group: len(name) > 1})
			}
		}
		if len(lists[0]) > 0 && random.Intn(2) == 0 {
			lists[0][random.Intn(len(lists[0]))].Ids = []int{math.MinInt, math.MaxInt}
		}
		if expectJoin(t, lists[0], lists[1]) {
			joins++
		}
	}
	if joins < 500 || joins > 2900 {
		t.Errorf("%d of 3000 lists join", joins)
	}
}

// Lists can be much longer than rows are.
func TestJoinBindsOfLongLists(t *testing.T) {
	var a, b []impl.Bind
	for i := range 100000 {
		a, b = append(a, bind("x"+strconv.Itoa(i), i)), append(b, bind("y"+strconv.Itoa(i/2), i/2))
	}
	joined, ok := impl.JoinBinds(a, b)
	if !ok || len(joined) != 150000 || !slices.IsSortedFunc(joined, func(a, b impl.Bind) int { return strings.Compare(a.Var, b.Var) }) {
		t.Errorf("JoinBinds of long lists has %d binds, %v", len(joined), ok)
	}
	same, ok := impl.JoinBinds(slices.Repeat([]impl.Bind{bind("x", 1)}, 100000), slices.Repeat([]impl.Bind{bind("x", 1)}, 100000))
	if !ok || len(same) != 100000 {
		t.Errorf("JoinBinds of long lists of one bind has %d binds, %v", len(same), ok)
	}
	b[99999].Ids = []int{0}
	if joined, ok := impl.JoinBinds(a, b); ok || len(joined) != 0 {
		t.Errorf("JoinBinds of long lists that differ at the end has %d binds, %v", len(joined), ok)
	}
}

// numbers has nodes and edges with some equal numbers; there are more edges.
const numbers = "(a 3)(b 1)(c 3)[0>1 r 3][1>2 r 1][2>0 s 5][2>2 t 0][0>1 r 3]"

func TestTestHolds(t *testing.T) {
	const text = "(x)-[e]->(y) -[f]->{-[g]->(n)}*{(z)|()}"
	binds := []impl.Bind{bind("e", 0), bind("f", 4), group("g", 0), group("n", 1), bind("x", 0), bind("y", 1), bind("z", 2)}
	for _, x := range []struct {
		test string
		want bool
	}{
		{"x~x", true}, {"x~y", false}, {"y~x", false}, {"x~z", false}, {"z~z", true}, {"e~e", true}, {"e~f", false}, {"f~f", true}, {"x~e", false}, {"e~x", false},
		{"x<x", false}, {"x<y", false}, {"y<x", true}, {"x<z", false}, {"z<x", false}, {"y<z", true}, {"y<e", true}, {"e<y", false}, {"e<f", false}, {"f<e", false}, {"x<e", false}, {"e<x", false},
		{"x=x", true}, {"x=y", false}, {"x=z", true}, {"z=x", true}, {"x=e", true}, {"e=x", true}, {"e=f", true}, {"y=y", true}, {"y=e", false}, {"f=z", true},
		{"g~g", false}, {"g=g", false}, {"g<x", false}, {"n~n", false}, {"n=n", false}, {"n~y", false}, {"y~n", false}, {"n<x", false}, {"q~q", false}, {"q=q", false}, {"x=q", false}, {"q=x", false}, {"q<x", false}, {"=", false}, {"x=", false}, {"~x", false},
	} {
		if got := impl.TestHolds(parsed(t, numbers), queryOf(t, text), binds, test(x.test)); got != x.want {
			t.Errorf("TestHolds of %s = %v", x.test, got)
		}
	}
}

// The first bind of each variable is that of one node or one edge of the graph.
func TestTestHoldsOfOtherBinds(t *testing.T) {
	g, q := parsed(t, numbers), queryOf(t, "(x)-[e]->(y) {-[g]->(n)}*")
	for _, id := range []int{math.MinInt, -1 << 32, -4, -3, -2, -1, 0, 1, 2, 3, 4, 5, 6, 8, 99, 1 << 32, 1<<32 + 1, math.MaxInt} {
		for _, sign := range []string{"~", "="} {
			if got := impl.TestHolds(g, q, []impl.Bind{bind("x", id)}, test("x"+sign+"x")); got != (id >= 0 && id < 3) {
				t.Errorf("TestHolds of x%sx and the node %d = %v", sign, id, got)
			}
			if got := impl.TestHolds(g, q, []impl.Bind{bind("e", id)}, test("e"+sign+"e")); got != (id >= 0 && id < 5) {
				t.Errorf("TestHolds of e%se and the edge %d = %v", sign, id, got)
			}
		}
	}
	for _, x := range []struct {
		binds []impl.Bind
		test  string
		want  bool
	}{
		{nil, "x~x", false}, {nil, "x=x", false}, {[]impl.Bind{bind("y", 0)}, "x=x", false}, {[]impl.Bind{bind("y", 0)}, "x=y", false}, {[]impl.Bind{bind("y", 0)}, "y=x", false}, {[]impl.Bind{bind("y", 0)}, "y=y", true}, {[]impl.Bind{bind("X", 0), bind("xx", 0), bind("", 0)}, "x=x", false},
		{[]impl.Bind{bind("x")}, "x~x", false}, {[]impl.Bind{bind("x", 0, 0)}, "x~x", false}, {[]impl.Bind{bind("x", 0, 1)}, "x=x", false}, {[]impl.Bind{bind("x", 0, 9)}, "x=x", false}, {[]impl.Bind{group("x", 0)}, "x~x", false}, {[]impl.Bind{group("x", 0)}, "x=x", false}, {[]impl.Bind{group("x")}, "x=x", false}, {[]impl.Bind{group("e", 0)}, "e~e", false},
		// Those behind the first one do not count.
		{[]impl.Bind{bind("x", 0), bind("x", 1), bind("y", 0)}, "x~y", true}, {[]impl.Bind{bind("x", 1), bind("x", 0), bind("y", 0)}, "x~y", false}, {[]impl.Bind{bind("x"), bind("x", 0)}, "x~x", false}, {[]impl.Bind{group("x", 0), bind("x", 0)}, "x~x", false}, {[]impl.Bind{bind("x", 9), bind("x", 0)}, "x~x", false}, {[]impl.Bind{bind("x", 0), group("x", 0), bind("x", -1)}, "x~x", true},
		// They need not be in any order, nor be of the query.
		{[]impl.Bind{bind("z", 5), bind("y", 2), bind("x", 2), bind("a")}, "x~y", true}, {[]impl.Bind{bind("y", 1), bind("", -1), bind("x", 2)}, "y<x", true}, {[]impl.Bind{bind("g", 0), bind("n", 0)}, "g=n", false}, {[]impl.Bind{bind("n", 0)}, "n~n", false}, {[]impl.Bind{bind("z", 0)}, "z~z", false},
		// A node and an edge are never the same; an edge can have a number that no node has.
		{[]impl.Bind{bind("x", 0), bind("e", 0)}, "x~e", false}, {[]impl.Bind{bind("x", 0), bind("e", 0)}, "e~x", false}, {[]impl.Bind{bind("x", 0), bind("e", 4)}, "x=e", true}, {[]impl.Bind{bind("x", 4), bind("e", 4)}, "x=e", false}, {[]impl.Bind{bind("x", 0), bind("y", 2)}, "x~y", false}, {[]impl.Bind{bind("x", 0), bind("y", 2)}, "x=y", true},
	} {
		if got := impl.TestHolds(g, q, x.binds, test(x.test)); got != x.want {
			t.Errorf("TestHolds of %q and %s = %v", rowText(x.binds), x.test, got)
		}
	}
}

// Tests need not be those of the query, and with other numbers as Op none holds.
func TestTestHoldsOfOtherTests(t *testing.T) {
	g := parsed(t, numbers)
	binds := []impl.Bind{bind("e", 1), bind("x", 1), bind("y", 0)}
	for _, text := range []string{"(x)-[e]->(y)", "(x)-[e]->(y) !x~x", "(x)-[e]->(y) !x~y !e=x", "(y) (x) -[e]- !x<y !x<y !x<y !x<y"} {
		q := queryOf(t, text)
		for _, op := range []int{math.MinInt, -1 << 32, -3, -2, -1, 0, 1, 2, 3, 4, 5, 6, 1<<8 + 1, 1<<8 + 3, 1<<32 + 1, 1<<32 + 2, 1<<32 + 3, math.MaxInt} {
			for _, a := range []string{"x", "y", "e", "z", ""} {
				for _, b := range []string{"x", "y", "e", "z", ""} {
					x := impl.Test{A: a, Op: op, B: b}
					if got, want := impl.TestHolds(g, q, binds, x), plainHolds(g, q, binds, x); got != want {
						t.Errorf("TestHolds of %s and %v = %v", text, x, got)
					}
				}
			}
		}
	}
}

func TestTestHoldsOfInvalidArguments(t *testing.T) {
	q := queryOf(t, "(x)-[e]->(y)")
	binds := []impl.Bind{bind("e", 0), bind("x", 0), bind("y", 0)}
	for what, g := range invalidGraphs() {
		for _, x := range []string{"x~x", "x~y", "x=y", "x=x", "e~e", "e=e", "x=e", "x<e", "e<x"} {
			if impl.TestHolds(g, q, binds, test(x)) {
				t.Errorf("TestHolds of %s holds in a graph with %s", x, what)
			}
		}
	}
	for _, text := range []string{"(x) -[x]->", "(x) {-[x]->}*", "(x) () () ()", "(x) !x~z", "(x)-[e]-> !x~e", "(x) !x=x !x=x !x=x !x=x !x=x", "(x) {-[e]->}* !e=e"} {
		for _, x := range []string{"x~x", "x=x"} {
			if impl.TestHolds(parsed(t, numbers), queryOf(t, text), binds, test(x)) {
				t.Errorf("TestHolds of %s accepts %s", x, text)
			}
		}
	}
	if impl.TestHolds(parsed(t, numbers), impl.Query{}, binds, test("x=x")) || impl.TestHolds(impl.Graph{}, impl.Query{}, nil, impl.Test{}) || impl.TestHolds(parsed(t, numbers), q, nil, impl.Test{}) {
		t.Error("TestHolds accepts zero values")
	}
}

func TestTestHoldsOfManyBinds(t *testing.T) {
	random := rand.New(rand.NewSource(13))
	names := []string{"x", "y", "e", "f", "n", "g", "q", ""}
	queries := []impl.Query{queryOf(t, "(x)-[e]->(y) -[f]->{-[g]->(n)}*"), queryOf(t, "(e)-[x]->(f) -[y]-"), queryOf(t, "{-[e]->}*{(x)|-[f]-} {(y)|(x)|-[g]->} !x~y")}
	held := 0
	for i := range 40000 {
		g := parsed(t, []string{numbers, round, "(a 5)", "( 7)( 7)( 3)[0>1 r 7][0>1 r 3]"}[i%4])
		var binds []impl.Bind
		for range random.Intn(8) {
			made := impl.Bind{Var: names[random.Intn(len(names))], Group: random.Intn(9) == 0}
			for range 1 + random.Intn(8)/7 - random.Intn(8)/7 {
				made.Ids = append(made.Ids, random.Intn(5)-random.Intn(5)/4)
			}
			binds = append(binds, made)
		}
		q, x := queries[random.Intn(3)], impl.Test{A: names[random.Intn(len(names))], Op: random.Intn(5), B: names[random.Intn(len(names))]}
		if i%2 == 0 && len(binds) > 0 {
			x = impl.Test{A: binds[random.Intn(len(binds))].Var, Op: 1 + i/2%3, B: binds[random.Intn(len(binds))].Var}
		}
		want := plainHolds(g, q, binds, x)
		if got := impl.TestHolds(g, q, binds, x); got != want {
			t.Fatalf("TestHolds of %s, %q and %v in %s = %v", impl.FormatQuery(q), rowText(binds), x, impl.FormatGraph(g), got)
		}
		if want {
			held++
		}
	}
	if held < 800 {
		t.Errorf("only %d tests hold", held)
	}
}

// expectRows fails unless the query with a text has the rows with these texts.
func expectRows(t *testing.T, graph string, text string, mode int, most int, want ...string) {
	t.Helper()
	rows, ok := impl.RowsOf(parsed(t, graph), queryOf(t, text), mode, most)
	if got := rowTexts(rows); !ok || !slices.Equal(got, want) {
		t.Errorf("RowsOf(%s, %s, %d, %d) = %q, %v, not %q", graph, text, mode, most, got, ok, want)
	}
}

// both has an edge that leads back.
const both = "(a 1)(b 2)(a 3)[0>1 r 3][1>0 r 1][1>2 s 5]"

func TestRowsOfOnePattern(t *testing.T) {
	expectRows(t, round, "(x)", 1, 0, "x=0", "x=1", "x=2")
	expectRows(t, round, "(x:a)", 1, 4, "x=0", "x=2")
	expectRows(t, round, "(:c)", 1, 4)
	expectRows(t, both, "(x)-[e]->(y)", 1, 2, "e=0 x=0 y=1", "e=1 x=1 y=0", "e=2 x=1 y=2")
	expectRows(t, both, "(x)-[e]->(y)", 1, 0)
	expectRows(t, round, "-[e]->", 3, 2, "e=0", "e=1", "e=2")
	expectRows(t, round, "-[e]->", 4, 2, "e=0", "e=1", "e=2", "e=3")
	expectRows(t, round, "(:b){-[e]->(n)}^1,2", 1, 4, "e=1; n=2;", "e=1,2; n=2,0;", "e=1,3; n=2,2;")
	expectRows(t, round, "(:b){-[e]->}*", 1, 1, "e=;", "e=1;")
	// Matches with other walks and equal binds make one row, which can be without binds.
	expectRows(t, round, "()", 1, 4, "")
	expectRows(t, round, "-[]->", 1, 1, "")
	expectRows(t, round, "-[]->", 1, 0)
	expectRows(t, round, "(x)-[]-", 1, 1, "x=0", "x=1", "x=2")
	expectRows(t, round, "(x:b){-[]-}*", 1, 4, "x=1")
	// Rows are in the order of binds, and not in that of walks.
	expectRows(t, round, "()-[]->(x)", 1, 1, "x=0", "x=1", "x=2")
	expectRows(t, round, "<-[e]-(x)", 1, 1, "e=0 x=0", "e=1 x=1", "e=2 x=2", "e=3 x=2")
	expectRows(t, round, "{(y)|-[e]->|(x)|()}(:b)", 1, 1, "", "e=0", "x=1", "y=1")
	expectRows(t, round, "{-[e]->}^1,2(x:b)", 1, 4, "e=0; x=1", "e=2,0; x=1")
	expectRows(t, round, "(x){-[e]->}*(:b?<3)", 1, 2, "e=; x=1", "e=0; x=0", "e=2,0; x=2")
}

func TestRowsOfSeveralPatterns(t *testing.T) {
	expectRows(t, both, "(x)-[e]->(y) (y)-[f]->(z)", 1, 2, "e=0 f=1 x=0 y=1 z=0", "e=0 f=2 x=0 y=1 z=2", "e=1 f=0 x=1 y=0 z=1")
	expectRows(t, both, "(x)-[e]->(y) (y)-[f]->(z) !x~z", 1, 2, "e=0 f=1 x=0 y=1 z=0", "e=1 f=0 x=1 y=0 z=1")
	expectRows(t, both, "(x:b){-[e]->}+(y) (y:a)-[:r]->()", 1, 2, "e=1; x=1 y=0")
	expectRows(t, both, "(x:b){-[e]->}+(y) (y:a)", 1, 2, "e=1; x=1 y=0", "e=2; x=1 y=2")
	expectRows(t, both, "(x)-[e]->(y) (y)-[f]->(z) (z)-[g]->(x)", 1, 1)
	expectRows(t, round, "(x)-[e]->(y) (y)-[f]->(z) (z)-[g]->(x)", 1, 1, "e=0 f=1 g=2 x=0 y=1 z=2", "e=1 f=2 g=0 x=1 y=2 z=0", "e=2 f=0 g=1 x=2 y=0 z=1", "e=3 f=3 g=3 x=2 y=2 z=2")
	expectRows(t, both, "(x)-[e]->(y) (x)<-[e]-(y)", 1, 1)
	expectRows(t, both, "(x)-[e]->(y) (y)<-[e]-(x)", 1, 1, "e=0 x=0 y=1", "e=1 x=1 y=0", "e=2 x=1 y=2")
	expectRows(t, both, "(x)-[e]->(y) -[e:s]-(x)", 1, 1, "e=2 x=1 y=2")
	expectRows(t, both, "(x:a) (x?>1) (x)", 1, 1, "x=2")
	expectRows(t, both, "(x:a) (x:b)", 1, 1)
	// Each pattern has walks of its own, of the mode and with at most so many edges.
	expectRows(t, both, "-[e]->-[f]-> -[f]->-[g]->", 1, 2, "e=0 f=1 g=0", "e=1 f=0 g=1", "e=1 f=0 g=2")
	expectRows(t, both, "-[e]->-[f]-> -[f]->-[g]->", 2, 4, "e=0 f=1 g=0", "e=1 f=0 g=1", "e=1 f=0 g=2")
	expectRows(t, both, "-[e]->-[f]-> -[f]->-[g]->", 3, 4)
	expectRows(t, both, "-[e]->-[f]-> -[f]->-[g]->", 1, 1)
	expectRows(t, both, "(x:b) {-[e]->}+(x)", 2, 3, "e=0; x=1", "e=1,0; x=1")
	expectRows(t, both, "(x:b) {-[e]->}+(x)", 1, 3, "e=0; x=1", "e=0,1,0; x=1", "e=1,0; x=1")
	// Patterns without matches leave no rows.
	expectRows(t, both, "(x) (:c)", 1, 1)
	expectRows(t, both, "(:c) (x)", 1, 1)
	expectRows(t, both, "(x) (:c) -[e]->", 1, 1)
	expectRows(t, both, "(x) -[e]->", 1, 0)
}

// Without a common variable, each row is joined with each other one.
func TestRowsOfPatternsWithoutACommonVariable(t *testing.T) {
	expectRows(t, both, "(x) (y:a)", 1, 1, "x=0 y=0", "x=0 y=2", "x=1 y=0", "x=1 y=2", "x=2 y=0", "x=2 y=2")
	expectRows(t, both, "(y:a) (x)", 1, 1, "x=0 y=0", "x=0 y=2", "x=1 y=0", "x=1 y=2", "x=2 y=0", "x=2 y=2")
	expectRows(t, both, "(x:a) (y:a) !x<y", 1, 2, "x=0 y=2")
	expectRows(t, both, "(x:b) -[e:r]-> (y:b)", 1, 1, "e=0 x=1 y=1", "e=1 x=1 y=1")
	expectRows(t, both, "{-[e:s]->}? {-[f:s]->}?", 1, 1, "e=; f=;", "e=; f=2;", "e=2; f=;", "e=2; f=2;")
	// One without variables leaves the rows as they are, if it has a match.
	expectRows(t, both, "(x) ()", 1, 1, "x=0", "x=1", "x=2")
	expectRows(t, both, "-[]- (x:b) {-[]->}*", 1, 4, "x=1")
	expectRows(t, both, "() () ()", 1, 1, "")
	expectRows(t, both, "() (:c)", 1, 1)
}

// A variable that is not bound by a match can be bound by another one's, and no
// test of one that is bound by none holds.
func TestRowsOfVariablesThatAreNotBound(t *testing.T) {
	expectRows(t, both, "{(x:b)|()} (x)", 1, 0, "x=0", "x=1", "x=2")
	expectRows(t, both, "{(x:b)|(y:a)}", 1, 0, "x=1", "y=0", "y=2")
	expectRows(t, both, "{(x:b)|(y:a)} {(y:b)|(x:a)}", 1, 0, "x=0 y=0", "x=0 y=2", "x=1 y=1", "x=2 y=0", "x=2 y=2")
	expectRows(t, both, "{(x:b)|(y:a)} (x)", 1, 0, "x=0 y=0", "x=0 y=2", "x=1", "x=1 y=0", "x=1 y=2", "x=2 y=0", "x=2 y=2")
	expectRows(t, both, "{(x:b)|(y:a)} {(x)|()} !x=x", 1, 0, "x=0 y=0", "x=0 y=2", "x=1", "x=1 y=0", "x=1 y=2", "x=2 y=0", "x=2 y=2")
	expectRows(t, both, "{(x:b)|(y:a)} !x=x", 1, 0, "x=1")
	expectRows(t, both, "{(x:b)|(y:a)} !y~y", 1, 0, "y=0", "y=2")
	expectRows(t, both, "{(x:b)|(y:a)} !x<y", 1, 0)
	expectRows(t, both, "{(x:b)|(y:a)} !y<x", 1, 0)
	expectRows(t, both, "{(x:b)|(y:a)} !x~y", 1, 0)
	expectRows(t, both, "{(x:b)|(y:a)} !x=x !y=y", 1, 0)
	expectRows(t, both, "{(x:b)|-[e:s]->} !e=e", 1, 1, "e=2")
	expectRows(t, both, "{(x:b)|-[e:s]->} !e=x", 1, 1)
	expectRows(t, both, "{(x:b)|-[e:s]->} {(x)|-[e]->} !x<e", 1, 1, "e=0 x=1", "e=2 x=0", "e=2 x=1", "e=2 x=2")
}

func TestRowsOfTests(t *testing.T) {
	expectRows(t, both, "(x)-[e]->(y) !x~y", 1, 2)
	expectRows(t, round, "(x)-[e]->(y) !x~y", 1, 2, "e=3 x=2 y=2")
	expectRows(t, both, "(x)-[e]->(y) !x<y", 1, 2, "e=0 x=0 y=1", "e=2 x=1 y=2")
	expectRows(t, both, "(x)-[e]->(y) !y<x", 1, 2, "e=1 x=1 y=0")
	expectRows(t, both, "(x)-[e]->(y) !y=e", 1, 2, "e=1 x=1 y=0")
	expectRows(t, both, "(x)-[e]->(y) !y<e", 1, 2, "e=0 x=0 y=1", "e=2 x=1 y=2")
	expectRows(t, both, "(x)-[e]->(y) !e<x", 1, 2, "e=1 x=1 y=0")
	expectRows(t, both, "(x)-[e]->(y) !e<e", 1, 2)
	expectRows(t, both, "(x)-[e]->(y) !e=e !e~e", 1, 2, "e=0 x=0 y=1", "e=1 x=1 y=0", "e=2 x=1 y=2")
	expectRows(t, both, "-[e]-> -[f]-> !e~f", 1, 2, "e=0 f=0", "e=1 f=1", "e=2 f=2")
	expectRows(t, both, "-[e]-> -[f]-> !e<f", 1, 2, "e=0 f=2", "e=1 f=0", "e=1 f=2")
	expectRows(t, numbers, "-[e:r]-> -[f:r]-> !e=f", 1, 2, "e=0 f=0", "e=0 f=4", "e=1 f=1", "e=4 f=0", "e=4 f=4")
	expectRows(t, numbers, "(x) (y) !x=y", 1, 0, "x=0 y=0", "x=0 y=2", "x=1 y=1", "x=2 y=0", "x=2 y=2")
	expectRows(t, numbers, "(x) -[e]-> !x=e", 1, 1, "e=0 x=0", "e=0 x=2", "e=1 x=1", "e=4 x=0", "e=4 x=2")
	// All tests must hold.
	expectRows(t, numbers, "(x) (y) !x=y !x<y", 1, 0)
	expectRows(t, numbers, "(x) (y) (z) !x<y !y=z", 1, 0, "x=1 y=0 z=0", "x=1 y=0 z=2", "x=1 y=2 z=0", "x=1 y=2 z=2")
	expectRows(t, numbers, "(x) (y) (z) !x<y !y=z !y~z !x<z", 1, 0, "x=1 y=0 z=0", "x=1 y=2 z=2")
	expectRows(t, numbers, "(x)-[e]->(y) (y)-[f]->(z) !x<y !e<f !z=y !x~x", 1, 2, "e=1 f=2 x=1 y=2 z=0")
}

// matchesFor returns the matches of each pattern of a query in a graph, with
// walks of a mode and at most so many edges; all finds those of a pattern.
func matchesFor(q impl.Query, mode int, most int, all func(p impl.Pat) []impl.Match) [][]impl.Match {
	var lists [][]impl.Match
	for _, p := range q.Pats {
		lists = append(lists, matchesOfMode(all(p), mode, most))
	}
	return lists
}

// knownMatches returns a function that finds the matches of patterns with these
// walks, each once only.
func knownMatches(g impl.Graph, walks []impl.Walk) func(p impl.Pat) []impl.Match {
	known := map[string][]impl.Match{}
	return func(p impl.Pat) []impl.Match {
		text := impl.FormatPat(p)
		if _, ok := known[text]; !ok {
			known[text] = plainMatches(g, p, walks)
		}
		return known[text]
	}
}

// rowQueries returns queries that have rows in some graphs.
func rowQueries(t *testing.T) []impl.Query {
	t.Helper()
	list := manyQueries(900, true)
	for _, text := range append(slices.Clone(queryTexts), "{(x)|-[e]-(y)} {(y)|-[f]-(x)} {(z)|()}(y)", "(x){-[e]->(n)}*(y) (y){-[f]-}^1,2(z) !x<z", "{(x)|(y)}{(z)|-[e]->} {(x)|(z)}-[e]-{(y)|()} !x=z", "{-[e]->|-[f]->}^1,2 (x)-[h]->(x) -[h]-(y) !h<y",
		"-[e]-(x) -[f]-(y) -[g]-(z)", "{-[e]-}^1,2 {-[f]-}^1,2 (:b)", "(x)-[e]-(y)-[f]-(z) (xx)-[ee]-(yy)-[ff]-(zz) !x~xx", "-[e]-(x) -[f]-(y) {(z)|-[g]-} !e~f", "(:c) -[e]-(x)-[f]-() -[f]-(y)-[g]-()", "-[e]-(x)-[f]-() -[g]-(y)-[h]-() (:c)") {
		list = append(list, queryOf(t, text))
	}
	return list
}

// Promise 10: rows join matches of patterns, as the document says.
func TestRowsJoinMatchesOfPatterns(t *testing.T) {
	found, failed, several := 0, 0, 0
	for i, text := range []string{round, numbers, "(a 1)(b 2)[0>1 r 3][1>0 s 9]", "(a 4)"} {
		g := parsed(t, text)
		all := knownMatches(g, walksIn(t, g, 3))
		for j, q := range rowQueries(t) {
			mode, most := 1+(i+j)%4, j%4
			want, wanted := plainRows(g, q, matchesFor(q, mode, most, all))
			got, ok := impl.RowsOf(g, q, mode, most)
			if ok != wanted || !rowsSame(got, want) {
				t.Fatalf("RowsOf(%s, %s, %d, %d) = %q, %v, not %q, %v", text, impl.FormatQuery(q), mode, most, rowTexts(got), ok, rowTexts(want), wanted)
			}
			if !ok {
				failed++
			}
			if len(q.Pats) > 1 && len(got) > 1 {
				several++
			}
			found += len(got)
		}
	}
	if found < 10000 || failed < 10 || several < 300 {
		t.Errorf("there are %d rows, %d queries without, and %d with several patterns", found, failed, several)
	}
}

// Each row has, for each pattern, the binds of one of its matches; and matches
// whose binds are the same where they are of one variable make a row.
func TestRowsHaveTheBindsOfMatches(t *testing.T) {
	g := parsed(t, round)
	for _, q := range rowQueries(t) {
		rows, ok := impl.RowsOf(g, q, 1, 2)
		if !ok {
			continue
		}
		for _, row := range rows {
			joined := []impl.Bind{}
			for _, p := range q.Pats {
				matches, _ := impl.MatchesOf(g, p, 1, 2)
				at := slices.IndexFunc(matches, func(m impl.Match) bool {
					both, ok := impl.JoinBinds(row, m.Binds)
					return ok && rowSame(both, row)
				})
				if at < 0 {
					t.Fatalf("the row %q of %s has no match of %s", rowText(row), impl.FormatQuery(q), impl.FormatPat(p))
				}
				joined, _ = impl.JoinBinds(joined, matches[at].Binds)
			}
			if len(joined) > len(row) {
				t.Errorf("the row %q of %s has not all binds", rowText(row), impl.FormatQuery(q))
			}
			for _, x := range q.Tests {
				if !impl.TestHolds(g, q, row, x) {
					t.Errorf("the row %q of %s is there, but %v does not hold", rowText(row), impl.FormatQuery(q), x)
				}
			}
		}
		// The rows with tests are those without for which they hold.
		every, ok := impl.RowsOf(g, impl.Query{Pats: q.Pats}, 1, 2)
		held := slices.DeleteFunc(slices.Clone(every), func(row []impl.Bind) bool {
			return slices.ContainsFunc(q.Tests, func(x impl.Test) bool { return !impl.TestHolds(g, q, row, x) })
		})
		if !ok || !rowsSame(held, rows) {
			t.Errorf("RowsOf(%s) = %q, not %q", impl.FormatQuery(q), rowTexts(rows), rowTexts(held))
		}
	}
}

// Queries join matches in any order: patterns and tests in another one have the
// same rows, where there are not too many on the way.
func TestRowsOfPatternsInAnyOrder(t *testing.T) {
	count := 0
	for _, text := range []string{round, both} {
		g := parsed(t, text)
		for _, q := range rowQueries(t) {
			rows, ok := impl.RowsOf(g, q, 1, 2)
			for turn := 1; turn < len(q.Pats); turn++ {
				turned := impl.Query{Pats: slices.Concat(q.Pats[turn:], q.Pats[:turn]), Tests: slices.Clone(q.Tests)}
				slices.Reverse(turned.Tests)
				others, ok2 := impl.RowsOf(g, turned, 1, 2)
				if ok && ok2 && !rowsSame(rows, others) {
					t.Errorf("RowsOf(%s) = %q, but %q in another order", impl.FormatQuery(q), rowTexts(rows), rowTexts(others))
				}
				if ok && ok2 && len(rows) > 0 {
					count++
				}
			}
			// With a pattern twice, each row is still there: the same match is in it again.
			twice, ok2 := impl.RowsOf(g, impl.Query{Pats: append(slices.Clone(q.Pats), q.Pats[0]), Tests: q.Tests}, 1, 2)
			for _, row := range rows {
				if ok2 && !slices.ContainsFunc(twice, func(other []impl.Bind) bool { return rowSame(row, other) }) {
					t.Errorf("RowsOf(%s) has %q, but not with a pattern twice", impl.FormatQuery(q), rowText(row))
				}
			}
		}
	}
	if count < 200 {
		t.Errorf("only %d queries have rows in another order", count)
	}
}

// Two patterns that meet at a node have the rows of one that goes along both.
func TestRowsOfPatternsThatMeet(t *testing.T) {
	for _, text := range []string{round, both, crossing, numbers} {
		g := parsed(t, text)
		for _, x := range [][2]string{{"(x)-[e]->(y) (y)-[f]->(z)", "(x)-[e]->(y)-[f]->(z)"}, {"(x)-[e]-(y) (y)<-[e]-(x)", "(x)-[e]-(y)<-[e]-(x)"}, {"(x){-[e]->}?(y) (y)-[f]-(x)", "(x){-[e]->}?(y)-[f]-(x)"}, {"{(x)|-[e]->}(y) (y){(z)|<-[f]-}", "{(x)|-[e]->}(y){(z)|<-[f]-}"}, {"(x) (x)-[e]->", "(x)-[e]->"}} {
			rows, ok := impl.RowsOf(g, queryOf(t, x[0]), 1, 1)
			matches, ok2 := impl.MatchesOf(g, patOf(t, x[1]), 1, 2)
			var want [][]impl.Bind
			for _, m := range matches {
				want = append(want, m.Binds)
			}
			slices.SortFunc(want, func(a, b []impl.Bind) int {
				if plainBindsBefore(a, b) {
					return -1
				}
				return 1
			})
			want = slices.CompactFunc(want, rowSame)
			if !ok || !ok2 || !rowsSame(rows, want) {
				t.Errorf("RowsOf(%s, %s) = %q, %v, not %q", text, x[0], rowTexts(rows), ok, rowTexts(want))
			}
		}
	}
}

// choiceOf returns a pattern of the node x with one of so many other variables,
// whose names begin with a letter, if its label is r, and with none, if it is s.
func choiceOf(front string, count int) string {
	text := "(x){"
	for i := range count {
		text += "(" + front + string(rune('a'+i)) + ":r)|"
	}
	return text + "(:s)}"
}

// labelledNodes returns a graph with so many nodes with the label r, and with s.
func labelledNodes(r int, s int) impl.Graph {
	var g impl.Graph
	for i := range r + s {
		g.Nodes = append(g.Nodes, impl.Node{Label: "r"})
		if i >= r {
			g.Nodes[i].Label = "s"
		}
	}
	return g
}

// There can be as many rows as MaxMatch behind joining a pattern, and no more.
func TestRowsOfAtMostMaxMatch(t *testing.T) {
	least, most := 0, math.MaxInt
	for _, counts := range [][2]int{{20, 20}, {19, 20}, {20, 19}, {3, 19}, {7, 19}, {10, 10}, {5, 20}, {20, 10}, {1, 20}, {9, 14}, {13, 15}, {4, 20}, {8, 10}, {19, 3}} {
		for r := range 9 {
			for s := max(0, 1-r); r+s <= 8; s++ {
				g, first, second := labelledNodes(r, s), choiceOf("a", counts[0]), choiceOf("b", counts[1])
				want := r*counts[0]*counts[1] + s
				for _, text := range []string{first + " " + second, second + " " + first + " (x)", "(x) " + first + " " + second, "() " + second + " " + first, first + " " + second + " !x=x", first + " (x) " + second + " !x~x !x=x"} {
					q, ok := impl.ParseQuery(text)
					if !ok {
						t.Fatalf("ParseQuery(%s) fails", text)
					}
					rows, ok := impl.RowsOf(g, q, 1, 0)
					if ok != (want <= 400) || ok && len(rows) != want || !ok && len(rows) != 0 {
						t.Errorf("RowsOf of %d and %d variables at %d and %d nodes = %d rows, %v", counts[0], counts[1], r, s, len(rows), ok)
					}
				}
				if want <= 400 {
					least = max(least, want)
				} else {
					most = min(most, want)
				}
			}
		}
	}
	if least != 400 || most != 401 {
		t.Errorf("the limit is between %d and %d", least, most)
	}
}

// Rows count before tests, behind joining each pattern, and each once.
func TestRowsThatCount(t *testing.T) {
	eight, seven := sized(8, 0), sized(7, 0)
	const few, many = "{(a)|(b)|(c)|(d)|(e)}(x)", "{(f)|(g)|(h)|(i)|(j)|(k)|(l)|(m)|(n)|(o)|(p)}(y)"
	for _, x := range []struct {
		g    impl.Graph
		text string
		want int
	}{
		{seven, "(x) (y) (z)", 343}, {eight, "(x) (y) (z)", -1}, {eight, "(x) (y)", 64}, {eight, "(x) (y) (x)", 64}, {eight, "(x) (x) (y)", 64},
		// Tests come too late for making them few.
		{eight, "(x) (y) (z) !x~y !y~z", -1}, {eight, "(x) (y) (z) !x<y", -1}, {seven, "(x) (y) (z) !x~y", 49}, {seven, "(x) (y) (z) !x~y !y~z", 7}, {seven, "(x) (y) (z) !x<y", 0},
		// So does a pattern behind that makes them few, but not one in front.
		{eight, few + " " + many + " (:c)", -1}, {eight, few + " (:c) " + many, 0}, {eight, "(:c) " + few + " " + many, 0}, {eight, few + " " + many, -1}, {eight, few + " " + many + " (x)(y)", -1}, {eight, "(x)(y) " + few + " " + many, -1}, {sized(2, 0), few + " " + many, 220}, {sized(2, 0), "(x)(y) " + few + " " + many, 110}, {sized(3, 0), few + " " + many + " (x)(y)", -1}, {sized(3, 0), "(x)(y) " + few + " " + many, 165}, {sized(3, 0), few + " (x)(y) " + many, 165},
		// Matches with equal binds are one row, however many ways there are of joining them.
		{sized(1, 14), "-[]->", 1}, {sized(1, 14), "-[]-> -[]->", 1}, {sized(1, 14), "{-[]->}^1,2 {-[]->}^1,2 {-[]->}^1,2", 1}, {sized(1, 14), "{-[]->}^1,2(x) (x){-[]->}^1,2 {-[]->}^1,2(y)", 1}, {sized(1, 14), "-[e]-> {-[]->}^1,2 {-[]->}*", 14}, {sized(1, 14), "-[e]-> -[f]->", 196}, {sized(1, 14), "-[e]-> -[f]-> -[g]->", -1}, {sized(1, 14), "-[e]-> -[f]-> -[e]-", 196}, {sized(1, 14), "-[e]->-[f]-> -[f]->-[e]->", 196}, {sized(1, 14), "-[e]->-[f]-> -[f]->-[g]->", -1},
		{eight, "{(a)|(b)|(c)|()} {(a)|(b)|()}", 1 + 8*3 + 64*3}, {eight, "{(a)|()} {(a)|()} {(a)|()}", 9}, {eight, "{(a)|(b)|()} {(a)|(b)|()} {(a)|(b)|()}", 81}, {sized(6, 0), "{(a)|(b)|(c)|()} {(a)|(b)|(c)|()}", 1 + 6*3 + 36*3}, {sized(6, 0), "{(a)|(b)|(c)|()} {(a)|(b)|(c)|()} {(a)|(b)|(c)|()}", 343}, {seven, "{(a)|(b)|(c)|()} {(a)|(b)|(c)|()} {(a)|(b)|(c)|()}", -1},
	} {
		rows, ok := impl.RowsOf(x.g, queryOf(t, x.text), 1, 2)
		if ok != (x.want >= 0) || len(rows) != max(0, x.want) {
			t.Errorf("RowsOf(%s, %s) = %d rows, %v, not %d", impl.FormatGraph(x.g), x.text, len(rows), ok, x.want)
		}
	}
}

// There are no rows if MatchesOf returns false for one of the patterns, even if
// another one has no matches.
func TestRowsOfPatternsWithTooManyMatches(t *testing.T) {
	tooMany := patOf(t, "{-[]->}^1,3")
	for edges := 5; edges <= 14; edges++ {
		g := sized(1, edges)
		for most := range 5 {
			_, want := impl.MatchesOf(g, tooMany, 1, most)
			for _, pats := range [][]impl.Pat{{tooMany}, {tooMany, aNode}, {aNode, tooMany}, {patOf(t, "(:c)"), tooMany}, {tooMany, patOf(t, "(:c)")}, {patOf(t, "(:c)"), node("x"), tooMany}, {patOf(t, "(:c)"), tooMany, node("x")}, {node("x"), node("y"), tooMany}} {
				for _, tests := range [][]impl.Test{nil, {test("x<x")}} {
					q := impl.Query{Pats: pats, Tests: tests}
					if !impl.QueryValid(q) {
						continue
					}
					rows, ok := impl.RowsOf(g, q, 1, most)
					if ok != want || !ok && len(rows) != 0 {
						t.Errorf("RowsOf(%s) with %d edges, %d at most = %d rows, %v", impl.FormatQuery(q), edges, most, len(rows), ok)
					}
				}
			}
		}
	}
	// Matches count, and not their binds.
	for r, want := range map[int]bool{9: true, 10: true, 11: false} {
		rows, ok := impl.RowsOf(labelledEdges(r, 0), queryOf(t, manyWays), 1, 1)
		if ok != want || want && len(rows) != 40 || !want && len(rows) != 0 {
			t.Errorf("RowsOf of 40 times %d matches = %d rows, %v", r, len(rows), ok)
		}
	}
}

func TestRowsOfInvalidArguments(t *testing.T) {
	g := parsed(t, both)
	for _, text := range []string{"(x)", "(x)-[e]->(y) (y)-[f]->(z) !x~z", "(:c) (x) {-[e]->}*"} {
		q := queryOf(t, text)
		for mode := -2; mode <= 7; mode++ {
			for most := -2; most <= 7; most++ {
				_, ok := impl.RowsOf(g, q, mode, most)
				if want := mode >= 1 && mode <= 4 && most >= 0 && most <= 4; ok != want {
					t.Errorf("RowsOf(%s) of %d and %d = %v", text, mode, most, ok)
				}
				if !ok {
					expectNoRows(t, text, g, q, mode, most)
				}
			}
		}
		for _, num := range []int{5, 8, 100, 256 + 1, 1<<32 + 1, math.MaxInt, math.MinInt, math.MinInt + 1} {
			expectNoRows(t, text, g, q, num, 2)
			expectNoRows(t, text, g, q, 1, num)
		}
		for what, bad := range invalidGraphs() {
			for mode := 1; mode <= 4; mode++ {
				expectNoRows(t, text+" in a graph with "+what, bad, q, mode, mode)
			}
		}
	}
	for _, text := range []string{"() () () ()", "(x) -[x]->", "-[x]-> (x)", "{-[e]->}* -[e]->", "(n) {-[]->(n)}*", "{-[e]->}* {-[e]->}*", "(x) !x~z", "(x)-[e]-> !x~e", "{-[e]->}* !e=e", "(x) !x=x !x=x !x=x !x=x !x=x"} {
		for mode := 1; mode <= 4; mode++ {
			expectNoRows(t, text, g, queryOf(t, text), mode, mode)
		}
	}
	expectNoRows(t, "no patterns", g, impl.Query{}, 1, 2)
	expectNoRows(t, "no patterns", g, impl.Query{Tests: []impl.Test{{}}}, 1, 2)
	expectNoRows(t, "an Op that is none", g, impl.Query{Pats: []impl.Pat{node("x")}, Tests: []impl.Test{{A: "x", Op: 4, B: "x"}}}, 1, 2)
}

// markedBinds returns binds in memory of their own, with marks behind all lists.
func markedBinds(binds []impl.Bind) []impl.Bind {
	return markedMatch(impl.Match{Walk: walkOf(0), Binds: binds}).Binds
}

// untouchedBinds reports whether binds made by markedBinds are still so.
func untouchedBinds(binds []impl.Bind, want []impl.Bind) bool {
	return untouchedMatch(impl.Match{Walk: markedWalk(walkOf(0)), Binds: binds}, impl.Match{Walk: walkOf(0), Binds: want})
}

// wipeRow writes over the binds of a row, and over the memory behind its lists.
func wipeRow(row []impl.Bind) { wipeMatch(impl.Match{Binds: row}) }

func TestJoinedBindsShareNoMemory(t *testing.T) {
	lists := [][]impl.Bind{nil, {bind("x", 1)}, {group("e", 0, 1), bind("x", 1), group("z")}, {bind("y", 2), bind("x", 1), bind("y", 3)}, {bind("a"), group("b")}, {bind("x", 1), bind("w", 0, 1)}}
	for _, originalA := range lists {
		for _, originalB := range lists {
			a, b := markedBinds(originalA), markedBinds(originalB)
			want, wanted := plainJoin(originalA, originalB)
			first, ok := impl.JoinBinds(a, b)
			second, _ := impl.JoinBinds(a, b)
			if ok != wanted || !untouchedBinds(a, originalA) || !untouchedBinds(b, originalB) {
				t.Errorf("JoinBinds of %q and %q = %v, or it changes its arguments", rowText(originalA), rowText(originalB), ok)
			}
			wipeRow(first)
			if !rowSame(second, want) || !untouchedBinds(a, originalA) || !untouchedBinds(b, originalB) {
				t.Errorf("JoinBinds of %q and %q shares memory with its arguments or another result", rowText(originalA), rowText(originalB))
			}
			wipeRow(a)
			wipeRow(b)
			if !rowSame(second, want) {
				t.Errorf("JoinBinds of %q and %q is in the memory of its arguments", rowText(originalA), rowText(originalB))
			}
			for i := range second {
				wipeList(second[i].Ids)
				if !rowSame(second[i+1:], want[i+1:]) {
					t.Errorf("two binds of JoinBinds of %q and %q share memory", rowText(originalA), rowText(originalB))
				}
			}
		}
	}
	// Binds of the arguments can share memory, and have more behind empty lists.
	nums := slices.Repeat([]int{7}, 20)
	a := []impl.Bind{{Var: "x", Ids: nums[:1]}, {Var: "y", Ids: nums[:1]}, {Var: "z", Ids: nums[:0]}}
	joined, ok := impl.JoinBinds(a, []impl.Bind{{Var: "w", Ids: nums[:2]}, {Var: "v", Ids: nums[3:3]}})
	for i := range joined {
		wipeList(joined[i].Ids)
	}
	if !ok || len(joined) != 5 || !slices.Equal(nums, slices.Repeat([]int{7}, 20)) {
		t.Errorf("JoinBinds has memory of its arguments: %v, %v", nums, ok)
	}
}

func TestRowsShareNoMemory(t *testing.T) {
	for _, text := range []string{"(x)-[e]->(y)", "(x) (y)", "(x)-[e]->(y) (y)-[f]->(z)", "{-[e]->}* (x) !x=x", "{(x)|()} {(x)|(y)} {(y)|-[e]->}", "(x:!(b|c)){{-[e:r|!%]->}+(n)}+ (x)", "(x) (x) (x) !x~x !x=x"} {
		original := queryOf(t, text)
		g, q := roomy(), roomyQuery(original)
		first, ok := impl.RowsOf(g, q, 1, 2)
		second, _ := impl.RowsOf(g, q, 1, 2)
		if !ok || len(first) == 0 || !impl.GraphSame(whole(g), whole(roomy())) || !untouchedQuery(q, original) {
			t.Errorf("RowsOf of %s = %q, %v, or it changes its arguments", text, rowTexts(first), ok)
		}
		var want [][]impl.Bind
		for _, row := range first {
			want = append(want, markedBinds(row))
		}
		for _, p := range q.Pats {
			wipePat(p)
		}
		wipe(g)
		if !rowsSame(first, want) {
			t.Errorf("RowsOf of %s is in the memory of its arguments", text)
		}
		for i := range first {
			for j := range first[i] {
				former := slices.Clone(first[i][j].Ids)
				wipeList(first[i][j].Ids)
				first[i][j].Ids = former
				if !rowsSame(first[i:], want[i:]) {
					t.Fatalf("two binds of RowsOf of %s share memory", text)
				}
			}
			wipeRow(first[i])
			if !rowsSame(first[i+1:], want[i+1:]) {
				t.Fatalf("two rows of RowsOf of %s share memory", text)
			}
		}
		clear(first[:cap(first)])
		if !rowsSame(second, want) {
			t.Errorf("RowsOf of %s shares memory with another result", text)
		}
	}
}

// roomyQuery returns a query in new memory, with more memory behind each list,
// and marks in it.
func roomyQuery(q impl.Query) impl.Query {
	var made impl.Query
	for _, p := range q.Pats {
		made.Pats = append(made.Pats, roomyPat(p))
	}
	made.Pats = append(made.Pats, node("mark"))[:len(q.Pats)]
	made.Tests = append(slices.Clone(q.Tests), impl.Test{A: "mark"})[:len(q.Tests)]
	return made
}

// untouchedQuery reports whether a query made by roomyQuery is still so.
func untouchedQuery(q impl.Query, want impl.Query) bool {
	behind, mark := q.Pats[:len(q.Pats)+1][len(q.Pats)], q.Tests[:len(q.Tests)+1][len(q.Tests)]
	return plainQuerySame(q, want) && !slices.ContainsFunc(q.Pats, func(p impl.Pat) bool { return !marksStay(p) }) && plainPatSame(behind, node("mark")) && mark == impl.Test{A: "mark"}
}

func TestReadingLeavesQueriesAlone(t *testing.T) {
	for _, text := range queryTexts {
		original := queryOf(t, text)
		q, g := roomyQuery(original), roomy()
		binds := []impl.Bind{bind("e", 0), bind("x", 0), bind("y", 1), group("f", 1, 0), bind("z")}
		marked := markedBinds(binds)
		impl.QueryValid(q)
		impl.QuerySame(q, q)
		impl.FormatQuery(q)
		for _, name := range []string{"", "x", "e", "mark"} {
			impl.VarKind(q, name)
			for op := range 5 {
				impl.TestHolds(g, q, marked, impl.Test{A: name, Op: op, B: "x"})
			}
		}
		impl.RowsOf(g, q, 1, 2)
		if !untouchedQuery(q, original) || !impl.GraphSame(whole(g), whole(roomy())) || !untouchedBinds(marked, binds) {
			t.Errorf("a function that reads %s changes it, its graph or its binds", text)
		}
		first, _ := impl.ParseQuery(text)
		second, _ := impl.ParseQuery(text)
		for i := range first.Pats {
			wipePat(first.Pats[i])
			if !slices.EqualFunc(first.Pats[i+1:], original.Pats[i+1:], plainPatSame) {
				t.Errorf("two patterns of ParseQuery of %s share memory", text)
			}
		}
		clear(first.Pats[:cap(first.Pats)])
		clear(first.Tests[:cap(first.Tests)])
		if !plainQuerySame(second, original) {
			t.Errorf("ParseQuery of %s shares memory with another result", text)
		}
	}
}
