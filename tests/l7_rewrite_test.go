package tests

import (
	"math"
	"math/rand"
	"slices"
	"strings"
	"testing"

	"loop.example/graphpatterns/impl"
)

// The plain functions are written without chapter 7, by the document, for
// testing it.

// plainMerged returns an element of nodes that two valid ones are merged to, and
// true, or false if they can't be.
func plainMerged(a impl.Elem, b impl.Elem) (impl.Elem, bool) {
	if a.Var != "" && b.Var != "" && a.Var != b.Var {
		return impl.Elem{}, false
	}
	both := func(a impl.Expr, b impl.Expr) impl.Expr {
		if zeroExpr(a) {
			return b
		}
		if zeroExpr(b) || plainSame(a, b) {
			return a
		}
		return and(a, b)
	}
	merged := impl.Elem{Node: true, Var: a.Var, Labels: both(a.Labels, b.Labels), Cond: both(a.Cond, b.Cond)}
	if merged.Var == "" {
		merged.Var = b.Var
	}
	return merged, impl.ElemValid(merged)
}

func isNode(p impl.Pat) bool { return p.Op == impl.PatElem && p.Elem.Node }

// plainSeq returns a sequence of simple parts made simpler. It looks for the
// first two elements that can be merged, again and again.
func plainSeq(kids ...impl.Pat) impl.Pat {
	var parts []impl.Pat
	for _, kid := range kids {
		if kid.Op != impl.PatSeq {
			kid = seq(kid)
		}
		parts = append(parts, kid.Kids...)
	}
	for i := 1; i < len(parts); {
		merged, ok := impl.Elem{}, false
		if isNode(parts[i-1]) && isNode(parts[i]) {
			merged, ok = plainMerged(parts[i-1].Elem, parts[i].Elem)
		}
		if !ok {
			i++
			continue
		}
		parts = slices.Concat(parts[:i-1], []impl.Pat{one(merged)}, parts[i+1:])
	}
	if len(parts) == 1 {
		return parts[0]
	}
	return seq(parts...)
}

// plainAlt returns a choice of simple parts made simpler.
func plainAlt(kids ...impl.Pat) impl.Pat {
	var parts, found []impl.Pat
	for _, kid := range kids {
		if kid.Op != impl.PatAlt {
			kid = alt(kid)
		}
		parts = append(parts, kid.Kids...)
	}
	for i, part := range parts {
		if slices.IndexFunc(parts, func(p impl.Pat) bool { return plainPatSame(p, part) }) == i {
			found = append(found, part)
		}
	}
	if len(found) == 1 {
		return found[0]
	}
	return alt(found...)
}

// hasVars reports whether a small pattern has variables.
func hasVars(p impl.Pat) bool {
	return slices.ContainsFunc(partsOf(p), func(part impl.Pat) bool { return part.Elem.Var != "" })
}

// plainSimple returns a valid pattern made simpler, in some memory of p.
func plainSimple(p impl.Pat) impl.Pat {
	var kids []impl.Pat
	for _, kid := range p.Kids {
		kids = append(kids, plainSimple(kid))
	}
	switch {
	case p.Op == impl.PatSeq:
		return plainSeq(kids...)
	case p.Op == impl.PatAlt:
		return plainAlt(kids...)
	case p.Op == impl.PatRep && p.Lo == 1 && p.Hi == 1 && !hasVars(p):
		return kids[0]
	case p.Op == impl.PatRep:
		return rep(kids[0], p.Lo, p.Hi)
	}
	return p
}

// plainUnrolled returns a valid pattern unrolled, valid or not, in some memory
// of p. It is for patterns that do not become very large.
func plainUnrolled(p impl.Pat, most int) impl.Pat {
	var kids []impl.Pat
	for _, kid := range p.Kids {
		kids = append(kids, plainUnrolled(kid, most))
	}
	switch p.Op {
	case impl.PatSeq:
		return plainSeq(kids...)
	case impl.PatAlt:
		return plainAlt(kids...)
	case impl.PatElem:
		return p
	}
	last := most
	if p.Hi != -1 && p.Hi < most {
		last = p.Hi
	}
	if p.Lo > last {
		last = p.Lo
	}
	var choices []impl.Pat
	for n := p.Lo; n <= last; n++ {
		switch n {
		case 0:
			choices = append(choices, aNode)
		case 1:
			choices = append(choices, kids[0])
		default:
			choices = append(choices, plainSeq(slices.Repeat(kids, n)...))
		}
	}
	return plainAlt(choices...)
}

// plainStripped returns a small pattern without its variables.
func plainStripped(p impl.Pat) impl.Pat {
	stripped := copiedPat(p)
	stripped.Elem.Var = ""
	for i, kid := range p.Kids {
		stripped.Kids[i] = plainStripped(kid)
	}
	return stripped
}

// manyPats returns patterns of all kinds within each other, more or less at
// random, but always the same ones.
func manyPats(count int, leaves []impl.Pat) []impl.Pat {
	random := rand.New(rand.NewSource(7))
	var grow func(way int) impl.Pat
	grow = func(way int) impl.Pat {
		kind := random.Intn(6)
		if way == 0 || kind == 0 {
			return leaves[random.Intn(len(leaves))]
		}
		if kind < 3 {
			pair := [][2]int{{1, 1}, {1, 1}, {1, 1}, {0, 1}, {0, -1}, {1, 2}, {2, 2}, {2, -1}}[random.Intn(8)]
			return rep(grow(way-1), pair[0], pair[1])
		}
		var kids []impl.Pat
		for range 2 + random.Intn(3) {
			if len(kids) > 0 && random.Intn(3) == 0 {
				kids = append(kids, kids[random.Intn(len(kids))])
				continue
			}
			kids = append(kids, grow(way-1))
		}
		return impl.Pat{Op: impl.PatSeq + kind%2, Kids: kids}
	}
	var list []impl.Pat
	for len(list) < count {
		if p := grow(1 + len(list)%5); plainPatValid(p) {
			list = append(list, p)
		}
	}
	return list
}

// rewritten returns patterns of all kinds, small ones and larger ones.
func rewritten() []impl.Pat {
	labelled := one(impl.Elem{Node: true, Labels: atom("a")})
	left := one(impl.Elem{Dir: impl.DirLeft, Cond: atom("<4")})
	lists := append(patsOfSize(4, []impl.Pat{aNode, node("x"), labelled, anEdge, edge("e")}, [][2]int{{1, 1}, {0, -1}, {1, 2}}), patsOfSize(5, []impl.Pat{aNode, node("x"), anEdge}, [][2]int{{1, 1}, {0, 2}})...)
	list := slices.DeleteFunc(slices.Concat(lists...), func(p impl.Pat) bool { return !plainPatValid(p) })
	leaves := []impl.Pat{aNode, aNode, node("x"), node("y"), labelled, one(impl.Elem{Node: true, Var: "x", Cond: atom(">1")}), anEdge, anEdge, left, edge("e"), edge("f")}
	for _, x := range patsWithTexts() {
		list = append(list, x.p)
	}
	return append(list, append(manyPats(1500, leaves), manyPats(1500, []impl.Pat{aNode, labelled, anEdge, left})...)...)
}

func TestPatSize(t *testing.T) {
	for text, want := range map[string]int{
		"()": 1, "-[e:r?<5]->": 1, "(x)-[]->(y)": 4, "{-[]->|<-[]-}": 3, "{-[]->}*": 2, "(x:a){-[e]->}+": 4, "{-[]->}^9,9": 2, "{{-[]->|<-[]-}(x)|{-[e]->}^2,3}": 8, "{{{-[]->}+}+}+": 4, "(x)(x)(x)": 4, "(:a&b&c|!(d|e))": 1,
	} {
		if got := impl.PatSize(patOf(t, text)); got != want {
			t.Errorf("PatSize of %s = %d, not %d", text, got, want)
		}
	}
	for _, p := range rewritten() {
		if got := impl.PatSize(p); got != len(partsOf(p)) {
			t.Fatalf("PatSize of %s = %d", impl.FormatPat(p), got)
		}
	}
}

func TestPatSizeAcceptsInvalidPats(t *testing.T) {
	for what, p := range map[string]impl.Pat{
		"the zero value": {}, "Op -1": {Op: -1, Kids: []impl.Pat{{}, {}}}, "an element with parts": {Op: impl.PatElem, Kids: []impl.Pat{seq(anEdge, anEdge), {}}}, "a sequence of one": seq(aNode), "a choice of none": alt(),
		"a repeated node": rep(aNode, 0, 0), "sequences in one": seq(seq(anEdge, anEdge), seq(anEdge, anEdge)), "a node and an edge": seq(node("x"), edge("x")), "25 nodes": seq(slices.Repeat([]impl.Pat{anEdge}, 24)...), "11 nodes on a way": patDeep(11, anEdge, inRep, inSeq, inAlt),
		"a bad element": one(impl.Elem{Node: true, Dir: 7, Labels: wide(100)}), "parts in the same memory": patShared(9, 2, anEdge), "two lists of the same memory": alt(patShared(5, 3, aNode), patShared(5, 3, aNode)),
	} {
		if got := impl.PatSize(p); got != len(partsOf(p)) || impl.PatValid(p) {
			t.Errorf("PatSize of %s = %d, not %d", what, got, len(partsOf(p)))
		}
	}
	if wide, long := impl.PatSize(seq(slices.Repeat([]impl.Pat{aNode}, 100000)...)), impl.PatSize(patDeep(300000, anEdge, inRep)); wide != 100001 || long != 300000 {
		t.Errorf("PatSize = %d and %d", wide, long)
	}
	// 1 + 2 * (1 + 2 * (1 + ..)), up to what an int can be.
	for way := 1; way <= 70; way++ {
		want := math.MaxInt
		if way < 64 {
			want = 1<<way - 1
		}
		if got := impl.PatSize(patShared(way, 2, aNode)); got != want {
			t.Errorf("PatSize of %d nodes on a way = %d, not %d", way, got, want)
		}
	}
	for what, p := range map[string]impl.Pat{
		"a sequence": patLooped(impl.PatSeq), "a choice": patLooped(impl.PatAlt), "a repetition": patLooped(impl.PatRep), "one below": seq(anEdge, alt(anEdge, patLooped(impl.PatRep), anEdge), patShared(9, 2, aNode)),
	} {
		if got := impl.PatSize(p); got != math.MaxInt {
			t.Errorf("PatSize of %s of itself = %d", what, got)
		}
	}
}

func TestStripVars(t *testing.T) {
	for text, want := range map[string]string{
		"()": "()", "(x)": "()", "(x:a|b?<5)": "(:a|b?<5)", "-[e]->": "-[]->", "<-[e:r]-": "<-[:r]-", "-[e?=3]-": "-[?=3]-", "(x:a){-[e]->}+": "(:a){-[]->}+", "(x)-[e]->(x)": "()-[]->()", "(x)(y)": "()()",
		"{(x)|(y)}": "{()|()}", "{-[e]->(n)|<-[f]-}^2,3(y)": "{-[]->()|<-[]-}^2,3()", "{{-[e]->}+(x)}^1,1": "{{-[]->}+()}^1,1", "{-[]->|-[]->}": "{-[]->|-[]->}",
	} {
		stripped, ok := impl.StripVars(patOf(t, text))
		if got := impl.FormatPat(stripped); !ok || got != want {
			t.Errorf("StripVars(%s) = %q, %v, not %q", text, got, ok, want)
		}
	}
	for what, p := range brokenPats() {
		stripped, ok := impl.StripVars(p)
		expectNoPat(t, "StripVars of "+what, stripped, ok)
	}
	for _, p := range append(rewritten(), seq(slices.Repeat([]impl.Pat{node("x")}, 23)...), patDeep(10, edge("e"), inRep, inSeq, inAlt)) {
		stripped, ok := impl.StripVars(p)
		if !ok || !impl.PatValid(stripped) || !plainPatSame(stripped, plainStripped(p)) || hasVars(stripped) {
			t.Fatalf("StripVars(%s) = %v, %v", impl.FormatPat(p), stripped, ok)
		}
	}
}

// Without variables, a pattern has all walks that it has with them; and the same
// ones, if none stands twice.
func TestStrippedPatternsHaveTheWalks(t *testing.T) {
	g := parsed(t, round)
	for _, text := range []string{"(x)-[e]->(y)", "{-[e]->(n)|<-[f]-}+(y)", "{(x)|(y)-[e]-}{-[f]->}?", "{{-[e]->}^1,2(n)}^1,2"} {
		p := patOf(t, text)
		stripped, ok := impl.StripVars(p)
		if !ok || !impl.SameWalks(g, p, stripped, 1, 3) {
			t.Errorf("StripVars(%s) = %s has other walks", text, impl.FormatPat(stripped))
		}
	}
	for text, lost := range map[string]string{"(x)-[]->(x)": "0-0-1", "-[e]->-[e]->": "0-0-1-1-2", "{(n)-[]->(n)}+": "1-1-2", "(x){-[e]->}+(x)": "2-2-0"} {
		p := patOf(t, text)
		stripped, _ := impl.StripVars(p)
		w, _ := impl.ParseWalk(lost)
		if walks, _ := impl.WalksOf(g, p, 1, 3); impl.FitsWalk(g, p, w) || !impl.FitsWalk(g, stripped, w) || slices.ContainsFunc(walks, func(w impl.Walk) bool { return !impl.FitsWalk(g, stripped, w) }) {
			t.Errorf("StripVars(%s) = %s has other walks", text, impl.FormatPat(stripped))
		}
	}
}

func TestMergeElems(t *testing.T) {
	for _, x := range [][3]string{
		{"()", "()", "()"}, {"(x)", "()", "(x)"}, {"()", "(x)", "(x)"}, {"(x)", "(x)", "(x)"}, {"(x)", "(y)", ""}, {"(x:a)", "(y:a)", ""}, {"(x)", "(xx)", ""},
		{"(:a)", "()", "(:a)"}, {"()", "(:a)", "(:a)"}, {"(:a)", "(:a)", "(:a)"}, {"(:a)", "(:b)", "(:a&b)"}, {"(:b)", "(:a)", "(:b&a)"}, {"(:a|b)", "(:c|d)", "(:(a|b)&(c|d))"}, {"(:a&b)", "(:c&d)", "(:a&b&(c&d))"}, {"(:a|b)", "(:a|b)", "(:a|b)"}, {"(:a|b)", "(:b|a)", "(:(a|b)&(b|a))"},
		{"(?<5)", "()", "(?<5)"}, {"()", "(?<5)", "(?<5)"}, {"(?<5)", "(?<5)", "(?<5)"}, {"(?<5)", "(?>2)", "(?<5&>2)"}, {"(?=5)", "(?<5)", "(?=5&<5)"}, {"(?<5|=9)", "(?!>3)", "(?(<5|=9)&!>3)"},
		{"(:a)", "(?<5)", "(:a?<5)"}, {"(?<5)", "(:a)", "(:a?<5)"}, {"(x:a)", "(:b?<3)", "(x:a&b?<3)"}, {"(:a?<5)", "(x:a?>2)", "(x:a?<5&>2)"}, {"(x:a?<5)", "(x:b?<5)", "(x:a&b?<5)"}, {"(x:a?<5)", "(x)", "(x:a?<5)"}, {"(:%)", "(:!%)", "(:%&!%)"}, {"(:%?%)", "(x:%?%)", "(x:%?%)"},
		{"(x:a)", "-[]->", ""}, {"-[]->", "(x:a)", ""}, {"-[]->", "-[]->", ""}, {"<-[e]-", "<-[e]-", ""}, {"-[:a]-", "()", ""},
	} {
		merged, ok := impl.MergeElems(elemOf(t, x[0]), elemOf(t, x[1]))
		if x[2] == "" {
			expectNoElem(t, "MergeElems of "+x[0]+" and "+x[1], merged, ok)
		} else if got := impl.FormatElem(merged); !ok || got != x[2] {
			t.Errorf("MergeElems(%s, %s) = %q, %v, not %q", x[0], x[1], got, ok, x[2])
		}
	}
}

func TestMergeElemsOfInvalidElems(t *testing.T) {
	for what, bad := range brokenElems() {
		for _, e := range []impl.Elem{aNode.Elem, {Node: true, Var: "x", Labels: atom("a")}, bad} {
			merged, ok := impl.MergeElems(bad, e)
			expectNoElem(t, "MergeElems of "+what, merged, ok)
			merged, ok = impl.MergeElems(e, bad)
			expectNoElem(t, "MergeElems with "+what, merged, ok)
		}
	}
	empty := impl.Expr{Kids: []impl.Expr{}}
	merged, ok := impl.MergeElems(impl.Elem{Node: true, Labels: empty, Cond: atom("<5")}, impl.Elem{Node: true, Labels: atom("a"), Cond: empty})
	if got := impl.FormatElem(merged); !ok || got != "(:a?<5)" {
		t.Errorf("MergeElems with empty slices = %q, %v", got, ok)
	}
}

// Both expressions and an ExprAnd of them have at most 20 nodes, and 12 on a way
// down.
func TestMergeElemsWithinLimits(t *testing.T) {
	labels := func(e impl.Expr) impl.Elem { return impl.Elem{Node: true, Labels: e} }
	for a := 1; a <= 20; a++ {
		for b := 1; b <= 20; b++ {
			merged, ok := impl.MergeElems(labels(wide(a)), labels(wide(b)))
			want := and(wide(a), wide(b))
			if a == b {
				want = wide(a)
			}
			if a != b && a+b+1 > 20 {
				expectNoElem(t, "MergeElems of "+number(a)+" and "+number(b)+" nodes", merged, ok)
			} else if !ok || !plainElemSame(merged, labels(want)) {
				t.Errorf("MergeElems of %d and %d nodes = %v, %v", a, b, merged, ok)
			}
		}
	}
	conds := func(way int) impl.Elem { return impl.Elem{Node: true, Cond: chained(way-1, atom("<5"))} }
	for way := 1; way <= 12; way++ {
		for _, pair := range [][2]impl.Elem{{conds(way), {Node: true, Cond: atom("=7")}}, {{Node: true, Cond: atom("=7")}, conds(way)}} {
			merged, ok := impl.MergeElems(pair[0], pair[1])
			if way+1 > 12 {
				expectNoElem(t, "MergeElems of 12 nodes on a way", merged, ok)
			} else if !ok || !plainElemSame(merged, impl.Elem{Node: true, Cond: and(pair[0].Cond, pair[1].Cond)}) {
				t.Errorf("MergeElems of %d nodes on a way = %v, %v", way, merged, ok)
			}
		}
	}
	// One of both that can't be merged is enough; and equal ones always can.
	merged, ok := impl.MergeElems(impl.Elem{Node: true, Labels: wide(20), Cond: atom("<5")}, impl.Elem{Node: true, Labels: wide(20), Cond: atom(">5")})
	if !ok || !plainElemSame(merged, impl.Elem{Node: true, Labels: wide(20), Cond: and(atom("<5"), atom(">5"))}) {
		t.Errorf("MergeElems of two equal labels of 20 nodes = %v, %v", merged, ok)
	}
	merged, ok = impl.MergeElems(impl.Elem{Node: true, Labels: atom("a"), Cond: conds(12).Cond}, impl.Elem{Node: true, Labels: atom("b"), Cond: atom(">5")})
	expectNoElem(t, "MergeElems of a Cond that is too deep", merged, ok)
}

// A node fits a merged element exactly if it fits both.
func TestMergedElemsFitBoth(t *testing.T) {
	g := parsed(t, "(a 1)(b 2)( 5)(a 9)")
	var list []impl.Elem
	for _, text := range []string{"()", "(x)", "(y)", "(:a)", "(x:b|%)", "(:!a?<5)", "(x?>1)", "(?=5|<2)", "(:%?%)", "(x:a&!b?!(<2))"} {
		list = append(list, elemOf(t, text))
	}
	for _, a := range list {
		for _, b := range list {
			want, wantOk := plainMerged(a, b)
			merged, ok := impl.MergeElems(a, b)
			if ok != wantOk || ok && !plainElemSame(merged, want) {
				t.Errorf("MergeElems(%s, %s) = %s, %v", impl.FormatElem(a), impl.FormatElem(b), impl.FormatElem(merged), ok)
			}
			for i := range g.Nodes {
				if ok && impl.NodeFits(g, i, merged) != (impl.NodeFits(g, i, a) && impl.NodeFits(g, i, b)) {
					t.Errorf("the node %d fits %s, or not both of %s and %s", i, impl.FormatElem(merged), impl.FormatElem(a), impl.FormatElem(b))
				}
			}
		}
	}
}

// expectSimple fails unless SimplifyPat of each text is the pattern with the
// other one.
func expectSimple(t *testing.T, pairs map[string]string) {
	t.Helper()
	for text, want := range pairs {
		simple, ok := impl.SimplifyPat(patOf(t, text))
		if got := impl.FormatPat(simple); !ok || got != want {
			t.Errorf("SimplifyPat(%s) = %q, %v, not %q", text, got, ok, want)
		}
	}
}

func TestSimplifyPatOfElements(t *testing.T) {
	expectSimple(t, map[string]string{"()": "()", "(x:a?<5)": "(x:a?<5)", "-[]->": "-[]->", "<-[e:r|!(s|t)]-": "<-[e:r|!(s|t)]-", "(:!!a)": "(:!!a)", "-[e:a&a]-": "-[e:a&a]-"})
}

func TestSimplifyPatOfSequences(t *testing.T) {
	expectSimple(t, map[string]string{
		"(x)-[]->(y)": "(x)-[]->(y)", "()()": "()", "(:a)(:b)": "(:a&b)", "(x)()": "(x)", "()(x)": "(x)", "(x)(x)": "(x)", "(x)(y)": "(x)(y)", "-[]->-[]->": "-[]->-[]->", "(x:a)(?<5)-[:r]->": "(x:a?<5)-[:r]->",
		"(x)()-[]->()(:b)": "(x)-[]->(:b)", "()-[]->()": "()-[]->()", "-[]->()()-[]->": "-[]->()-[]->", "(:a)-[]->(:a)": "(:a)-[]->(:a)", "(x)-[]->(:a)(x)-[]->(x)(?<5)": "(x)-[]->(x:a)-[]->(x?<5)",
		// Three nodes one behind the other, and more.
		"(:a)(:a)(:b)": "(:a&b)", "(:a)(:b)(:a)": "(:a&b&a)", "(:a)(:b)(:c)": "(:a&b&c)", "()()()": "()", "(x)()(y)": "(x)(y)", "(x)(y)()": "(x)(y)", "()(x)(y)": "(x)(y)", "(x)(y)(x)": "(x)(y)(x)", "(x)(x)(y)": "(x)(y)", "(x)(y)(y)": "(x)(y)", "(x)(:a)(y)(:b)(x)": "(x:a)(y:b)(x)",
		"(:a)(x)(:b)": "(x:a&b)", "(?<5)(:a)(?>2)": "(:a?<5&>2)", "(x)(y)(z)(z)(y)(x)": "(x)(y)(z)(y)(x)", "(:a|b)(:a)(:a|b)": "(:(a|b)&a&(a|b))", "()()()()()()()-[]->()()()()()": "()-[]->()",
	})
}

func TestSimplifyPatOfChoices(t *testing.T) {
	expectSimple(t, map[string]string{
		"{-[]->|<-[]-}": "{-[]->|<-[]-}", "{-[]->|<-[]-|-[]->}": "{-[]->|<-[]-}", "{(x)|(y)|(x)|(z)|(y)}": "{(x)|(y)|(z)}", "{(x)|()|(x)}": "{(x)|()}", "{-[e]->|-[f]->|-[]->}": "{-[e]->|-[f]->|-[]->}", "{(:a)|(:!!a)}": "{(:a)|(:!!a)}", "{-[]->|-[]-}": "{-[]->|-[]-}",
		// A choice that becomes one pattern, alone and as a part.
		"{-[]->|-[]->}": "-[]->", "{(x)|(x)|(x)}": "(x)", "{()-[]->|()-[]->}": "()-[]->", "{-[]->|-[]->}(x)": "-[]->(x)", "{(:a)|(:a)}{(:b)|(:b)}": "(:a&b)", "(x){(:a)|(:a)}(?<5)": "(x:a?<5)", "(x){()-[]->(:a)|()-[]->(:a)}(y)": "(x)-[]->(y:a)", "{{-[]->|-[]->}*|(x)}": "{{-[]->}*|(x)}",
		"{{-[]->|-[]->}+|{-[]->}+}": "{-[]->}+", "{-[]->()()|-[]->()}": "-[]->()", "{(:a)(:b)|(:a&b)}-[]->": "(:a&b)-[]->", "{-[]->()()|-[]->|-[]->()}": "{-[]->()|-[]->}", "{(x)()|()(x)}": "(x)",
		"{(x)(y)|(y)(x)}": "{(x)(y)|(y)(x)}", "{{(x)|(x)}(y)|(x)(y)}": "(x)(y)", "{-[]->|{-[]->}+}": "{-[]->|{-[]->}+}", "{{-[]->}*|{-[]->}?|{-[]->}*}": "{{-[]->}*|{-[]->}?}", "{-[]->|-[]->}^2,3": "{-[]->}^2,3",
	})
}

func TestSimplifyPatOfRepetitions(t *testing.T) {
	expectSimple(t, map[string]string{
		"{-[]->}^1,1": "-[]->", "(x:a)(?<5){-[:r]->}^1,1": "(x:a?<5)-[:r]->", "{-[]->()-[]->}^1,1": "-[]->()-[]->", "(x){()-[]->()}^1,1(y)": "(x)-[]->(y)", "{{-[]->}^1,1}^1,1": "-[]->", "{{-[]->}^1,1-[]->}^1,1{-[]->}^1,1": "-[]->-[]->-[]->", "{-[]->|<-[]-}^1,1(x)": "{-[]->|<-[]-}(x)",
		// One that becomes a choice in a choice.
		"{{-[]->|-[:r]->}^1,1|-[:s]->}": "{-[]->|-[:r]->|-[:s]->}", "{{{-[]->|-[:r]->}^1,1}^1,1|-[:s]->}": "{-[]->|-[:r]->|-[:s]->}", "{{-[:r]->}^1,1|-[:r]->}?": "{-[:r]->}?", "{{-[]->|<-[]-}^1,1|{<-[]-|-[]->}^1,1}": "{-[]->|<-[]-}", "{(x)|{-[]->|-[]-}^1,1|-[]->|{-[]-|<-[]-}^1,1}": "{(x)|-[]->|-[]-|<-[]-}",
		// A repetition with a variable.
		"{-[e]->}^1,1": "{-[e]->}^1,1", "{-[]->(x)}^1,1": "{-[]->(x)}^1,1", "{{-[e]->}^1,1}^1,1": "{{-[e]->}^1,1}^1,1", "{{{-[]->}^1,1-[e]->}^1,1}^1,1": "{{-[]->-[e]->}^1,1}^1,1", "{{-[e]->}^1,1-[]->}^1,1": "{{-[e]->}^1,1-[]->}^1,1", "{{-[]->(n)(n)|-[]->()(n)}^1,1|-[]->}": "{{-[]->(n)}^1,1|-[]->}",
		"(x){-[]->}^1,1(x)": "(x)-[]->(x)", "{-[e]->(n)()|-[e]->(n)}*": "{-[e]->(n)}*", "{-[]->|-[e]->}^1,1(x)": "{-[]->|-[e]->}^1,1(x)",
		// Other times than one stay.
		"{-[]->}?": "{-[]->}?", "{-[]->}+": "{-[]->}+", "{-[]->}^1,2": "{-[]->}^1,2", "{-[]->}^0,1": "{-[]->}?", "{-[]->}^2,2": "{-[]->}^2,2", "{{-[]->}^1,1}^1,2": "{-[]->}^1,2", "{{-[]->}+}+": "{{-[]->}+}+", "{{-[]->}^1,1}*{-[]->}^1,1": "{-[]->}*-[]->", "{-[]->()()}^2,": "{-[]->()}^2,",
	})
}

// Elements that can't be merged, as the result would be too large, stay. Others
// behind them are merged with the last one.
func TestSimplifyPatOfElementsThatBecomeTooLarge(t *testing.T) {
	labels := func(e impl.Expr) impl.Pat { return one(impl.Elem{Node: true, Labels: e}) }
	for what, x := range map[string]struct{ p, want impl.Pat }{
		"21 nodes":          {seq(labels(wide(10)), labels(chained(9, atom("a")))), seq(labels(wide(10)), labels(chained(9, atom("a"))))},
		"20 nodes":          {seq(labels(wide(10)), labels(chained(8, atom("a")))), labels(and(wide(10), chained(8, atom("a"))))},
		"one behind":        {seq(labels(wide(18)), labels(wide(2)), labels(wide(1))), seq(labels(wide(18)), labels(and(wide(2), wide(1))))},
		"one in front":      {seq(labels(wide(1)), labels(wide(17)), labels(wide(2))), seq(labels(and(wide(1), wide(17))), labels(wide(2)))},
		"with a variable":   {seq(labels(wide(19)), node("x"), labels(atom("b"))), seq(one(impl.Elem{Node: true, Var: "x", Labels: wide(19)}), labels(atom("b")))},
		"13 nodes on a way": {seq(labels(chained(11, atom("a"))), labels(atom("b")), aNode), seq(labels(chained(11, atom("a"))), labels(atom("b")))},
		// The element in the middle is equal to the first one with the last one, only behind merging these.
		"equal ones": {seq(labels(atom("b")), rep(seq(labels(wide(17)), labels(and(atom("b"), wide(17))), anEdge), 1, 1)), seq(labels(and(atom("b"), wide(17))), anEdge)},
	} {
		simple, ok := impl.SimplifyPat(x.p)
		if !ok || !plainPatSame(simple, x.want) || !plainPatSame(plainSimple(x.p), x.want) {
			t.Errorf("SimplifyPat with %s = %s, %v", what, impl.FormatPat(simple), ok)
		}
	}
	// What is merged to an element that is equal to the one in front of it stays
	// behind this one, also when the sequence is what is left of a choice.
	big := labels(and(wide(9), chained(8, atom("a"))))
	late := seq(big, labels(wide(9)), labels(chained(8, atom("a"))))
	simple, ok := impl.SimplifyPat(alt(late, late))
	if !ok || !plainPatSame(simple, seq(big, big)) || !plainPatSame(plainSimple(alt(late, late)), seq(big, big)) {
		t.Errorf("SimplifyPat of a choice of equal sequences = %s, %v", impl.FormatPat(simple), ok)
	}
	simple, ok = impl.SimplifyPat(seq(alt(late, late), anEdge))
	if !ok || !plainPatSame(simple, seq(big, anEdge)) {
		t.Errorf("SimplifyPat of a choice of equal sequences in another one = %s, %v", impl.FormatPat(simple), ok)
	}
}

func TestSimplifyPatWithinLimits(t *testing.T) {
	for what, x := range map[string]struct{ p, want impl.Pat }{
		"23 nodes in a sequence": {seq(slices.Repeat([]impl.Pat{node("x")}, 23)...), node("x")}, "23 edges": {seq(slices.Repeat([]impl.Pat{anEdge}, 23)...), seq(slices.Repeat([]impl.Pat{anEdge}, 23)...)}, "23 choices": {alt(slices.Repeat([]impl.Pat{anEdge}, 23)...), anEdge},
		"repetitions": {patDeep(10, anEdge, func(p impl.Pat) impl.Pat { return rep(p, 1, 1) }), anEdge}, "repetitions with a variable": {patDeep(10, edge("e"), func(p impl.Pat) impl.Pat { return rep(p, 1, 1) }), patDeep(10, edge("e"), func(p impl.Pat) impl.Pat { return rep(p, 1, 1) })},
		"10 nodes on a way": {patDeep(10, anEdge, inRep, inSeq, inAlt), patDeep(10, anEdge, inRep, inSeq, inAlt)},
	} {
		simple, ok := impl.SimplifyPat(x.p)
		if !ok || !plainPatSame(simple, x.want) {
			t.Errorf("SimplifyPat of %s = %s, %v", what, impl.FormatPat(simple), ok)
		}
	}
	for what, p := range brokenPats() {
		simple, ok := impl.SimplifyPat(p)
		expectNoPat(t, "SimplifyPat of "+what, simple, ok)
	}
}

// sameMatches fails unless two patterns have the same matches.
func sameMatches(t *testing.T, g impl.Graph, p impl.Pat, q impl.Pat, mode int, most int) int {
	t.Helper()
	list, ok := impl.MatchesOf(g, p, mode, most)
	others, ok2 := impl.MatchesOf(g, q, mode, most)
	if ok != ok2 || !slices.EqualFunc(list, others, plainMatchSame) {
		t.Fatalf("%s has the matches %q, %v, and %s has %q, %v", impl.FormatPat(p), textsOf(list), ok, impl.FormatPat(q), textsOf(others), ok2)
	}
	return len(list)
}

// Promise 7: patterns are made simpler as the document says, and have the same
// matches then, and no more nodes.
func TestSimplerPatternsHaveTheSameMatches(t *testing.T) {
	count, changed, found := 0, 0, 0
	g, other := parsed(t, round), parsed(t, "(a 1)(b 2)( 3)[0>1 r 3][1>2  4][2>2 a 5]")
	for _, p := range rewritten() {
		count++
		simple, ok := impl.SimplifyPat(p)
		want := plainSimple(p)
		if !ok || !plainPatSame(simple, want) || !plainPatValid(simple) {
			t.Fatalf("SimplifyPat(%s) = %s, %v, not %s", impl.FormatPat(p), impl.FormatPat(simple), ok, impl.FormatPat(want))
		}
		size := impl.PatSize(simple)
		if size > impl.PatSize(p) || wayOf(simple) > wayOf(p) {
			t.Fatalf("SimplifyPat(%s) = %s has more nodes", impl.FormatPat(p), impl.FormatPat(simple))
		}
		if size < impl.PatSize(p) {
			changed++
			found += sameMatches(t, g, p, simple, 1+count%4, 2)
			found += sameMatches(t, other, p, simple, 1, 1+count%3)
		} else if !plainPatSame(simple, p) {
			t.Fatalf("SimplifyPat(%s) = %s", impl.FormatPat(p), impl.FormatPat(simple))
		}
		again, ok := impl.SimplifyPat(simple)
		if !ok || !plainPatSame(again, simple) {
			t.Fatalf("SimplifyPat(%s) = %s, which can be made simpler", impl.FormatPat(p), impl.FormatPat(simple))
		}
	}
	if count < 4000 || changed < 1500 || found < 10000 {
		t.Errorf("of %d patterns, %d are made simpler, with %d matches", count, changed, found)
	}
}

// Promise 7, for matches by themselves.
func TestMatchesOfSimplerPatterns(t *testing.T) {
	g := parsed(t, round)
	walks := walksIn(t, g, 3)
	for _, text := range []string{
		"(x)()-[e:r]->()(:b)(y)(y)", "{(x)-[]->|(x)-[]->()()|()(x)-[]->()}", "(x:a)(?<5)(x){-[e]->()()|-[e]->()}{{-[]->()()}^1,1|{-[]->()}^1,1}", "{{-[]->|-[]-}^1,1|{-[]-}^1,1|-[f]->}(x)(y)(x)", "(x)(y)(?>1)(x){-[]->|-[]->}^1,2{{<-[e]-}^1,1}^1,1",
		"{{-[:r]->}^1,1-[e]->|-[:r]->-[e]->}+", "{()|(x)|()(x)|()()}{(x)|(y)(y)}", "{{-[]->(n)(n)|-[]->()(n)}^1,1}*{-[]->}?", "{{{-[]->|-[:r]->}^1,1}^1,1|-[:s]->}(:a)(:!b)(?<9)", "(x){()-[]->()}^1,1(y){()-[]->()}^1,1(x)",
	} {
		p := patOf(t, text)
		simple, ok := impl.SimplifyPat(p)
		if !ok || impl.PatSize(simple) >= impl.PatSize(p) {
			t.Errorf("SimplifyPat(%s) = %s, %v", text, impl.FormatPat(simple), ok)
		}
		list := plainMatches(g, p, walks)
		for mode := 1; mode <= 4; mode++ {
			checkMatches(t, g, simple, mode, 3, matchesOfMode(list, mode, 3))
		}
	}
}

// expectUnrolled fails unless UnrollPat for at most so many edges is the pattern
// with a text, or false for an empty one.
func expectUnrolled(t *testing.T, text string, most int, want string) {
	t.Helper()
	unrolled, ok := impl.UnrollPat(patOf(t, text), most)
	if want == "" {
		expectNoPat(t, "UnrollPat("+text+", "+number(most)+")", unrolled, ok)
	} else if got := impl.FormatPat(unrolled); !ok || got != want {
		t.Errorf("UnrollPat(%s, %d) = %q, %v, not %q", text, most, got, ok, want)
	}
}

func TestUnrollPatOfPatternsWithoutRepetitions(t *testing.T) {
	for most := range 5 {
		for text, want := range map[string]string{
			"()": "()", "-[:r?<5]->": "-[:r?<5]->", "()()": "()", "(:a)(:b)-[]->": "(:a&b)-[]->", "{-[]->|<-[]-}": "{-[]->|<-[]-}", "{-[]->|-[]->}": "-[]->", "{(:a)|(:a)}(?<5)-[]->-[]->-[]->": "(:a?<5)-[]->-[]->-[]->", "{-[]->()()|<-[]-|-[]->()}": "{-[]->()|<-[]-}",
		} {
			expectUnrolled(t, text, most, want)
		}
	}
}

// The number of times is that of edges at most, but at least Lo.
func TestUnrollPatWithinLimits(t *testing.T) {
	texts := []string{"()", "-[]->", "-[]->-[]->", "-[]->-[]->-[]->", "-[]->-[]->-[]->-[]->", "-[]->-[]->-[]->-[]->-[]->"}
	for lo := range 10 {
		for _, hi := range []int{-1, 1, 2, 3, 4, 5, 6, 7, 8, 9} {
			for most := -2; most <= 7; most++ {
				p := rep(anEdge, lo, hi)
				if !impl.PatValid(p) {
					continue
				}
				unrolled, ok := impl.UnrollPat(p, most)
				if most < 0 || most > 4 {
					expectNoPat(t, "UnrollPat for "+number(most), unrolled, ok)
					continue
				}
				last := most
				if hi != -1 && hi < most {
					last = hi
				}
				want := ""
				if lo >= last {
					want = strings.Repeat("-[]->", max(lo, 0))
					if lo == 0 {
						want = "()"
					}
				} else {
					want = "{" + strings.Join(texts[lo:last+1], "|") + "}"
				}
				if got := impl.FormatPat(unrolled); !ok || got != want {
					t.Errorf("UnrollPat(%s, %d) = %q, %v, not %q", impl.FormatPat(p), most, got, ok, want)
				}
			}
		}
	}
	for _, most := range []int{-1, 5, 6, 100, 256, 1 << 32, 1<<32 + 1, math.MaxInt, math.MinInt, math.MinInt + 1} {
		for _, text := range []string{"()", "-[]->", "{-[]->}*", "{-[]->}^1,1", "(:a){-[:r]->|<-[]-}^2,3()"} {
			unrolled, ok := impl.UnrollPat(patOf(t, text), most)
			expectNoPat(t, "UnrollPat of "+text, unrolled, ok)
		}
	}
}

func TestUnrollPatOfRepetitions(t *testing.T) {
	expectUnrolled(t, "(:a){-[:r]->}*", 2, "(:a){()|-[:r]->|-[:r]->-[:r]->}")
	expectUnrolled(t, "(:a){-[:r]->}*", 0, "(:a)")
	expectUnrolled(t, "(:a){-[:r]->}*(:b)", 0, "(:a&b)")
	expectUnrolled(t, "{-[]->}^2,3", 1, "-[]->-[]->")
	expectUnrolled(t, "{-[]->}^2,3", 0, "-[]->-[]->")
	expectUnrolled(t, "()-[]->{<-[]-}^1,1(:a)", 1, "()-[]-><-[]-(:a)")
	// Sequences within others, with nodes that are merged where they meet.
	expectUnrolled(t, "{(:a)-[]->(:b)}^2,2", 4, "(:a)-[]->(:b&a)-[]->(:b)")
	expectUnrolled(t, "{(:a)-[]->(:a)}^1,3", 2, "{(:a)-[]->(:a)|(:a)-[]->(:a)-[]->(:a)}")
	expectUnrolled(t, "(?<5){(:a)-[]->(:b)}^2,2(:c)", 4, "(:a?<5)-[]->(:b&a)-[]->(:b&c)")
	expectUnrolled(t, "{{-[]->()}^2,2()<-[]-}^2,", 1, "-[]->()-[]->()<-[]--[]->()-[]->()<-[]-")
	// Choices within others: for one time, a part that is one has its own parts there.
	expectUnrolled(t, "{-[]->|<-[]-}^1,1", 4, "{-[]->|<-[]-}")
	expectUnrolled(t, "{-[]->|<-[]-}^1,2", 4, "{-[]->|<-[]-|{-[]->|<-[]-}{-[]->|<-[]-}}")
	expectUnrolled(t, "{-[]->|<-[]-}*", 2, "{()|-[]->|<-[]-|{-[]->|<-[]-}{-[]->|<-[]-}}")
	expectUnrolled(t, "{<-[]-|{-[]->}?}", 1, "{<-[]-|()|-[]->}")
	expectUnrolled(t, "{-[]->|{-[]->}*|()}", 2, "{-[]->|()|-[]->-[]->}")
	expectUnrolled(t, "{{-[]->}*|{-[]->}?|{-[]->}+}", 1, "{()|-[]->}")
	expectUnrolled(t, "{{-[]->}*|-[]->-[]->}", 2, "{()|-[]->|-[]->-[]->}")
	// Repetitions within others.
	expectUnrolled(t, "{{-[]->}^1,2}^1,2", 2, "{-[]->|-[]->-[]->|{-[]->|-[]->-[]->}{-[]->|-[]->-[]->}}")
	expectUnrolled(t, "{{-[]->}+}+", 1, "-[]->")
	expectUnrolled(t, "{{-[]->}^2,2}^3,3", 1, "-[]->-[]->-[]->-[]->-[]->-[]->")
	expectUnrolled(t, "{{-[]->}+|<-[]-}^2,2", 2, "{-[]->|-[]->-[]->|<-[]-}{-[]->|-[]->-[]->|<-[]-}")
	expectUnrolled(t, "{{-[]->}*<-[]-}?", 1, "{()|{()|-[]->}<-[]-}")
	expectUnrolled(t, "{-[]->}?{-[]->}?", 4, "{()|-[]->}{()|-[]->}")
	expectUnrolled(t, "{-[]->{-[]->}*}^1,1", 0, "-[]->()")
	expectUnrolled(t, "{-[]->()}?", 4, "{()|-[]->()}")
}

// A result that is too great is none; but only the result must be valid, and not
// what it is made of.
func TestUnrollPatOfResultsThatAreTooGreat(t *testing.T) {
	edges := func(count int) string { return strings.Repeat("-[]->", count) }
	expectUnrolled(t, "{-[]->}^9,9{-[]->}^9,9"+edges(5), 4, edges(23))
	expectUnrolled(t, "{-[]->}^9,9{-[]->}^9,9"+edges(6), 4, "")
	expectUnrolled(t, "{-[]->-[]->}^9,9", 0, edges(18))
	expectUnrolled(t, "{-[]->()-[]->}^8,8", 4, "")
	expectUnrolled(t, "{-[]->()-[]->}^7,7", 4, strings.Repeat("-[]->()-[]->", 7))
	expectUnrolled(t, "{-[]->()}*", 3, "{()|-[]->()|-[]->()-[]->()|-[]->()-[]->()-[]->()}")
	expectUnrolled(t, "{-[]->()}*", 4, "")
	expectUnrolled(t, "{-[]->}*{<-[]-}*", 2, "{()|-[]->|-[]->-[]->}{()|<-[]-|<-[]-<-[]-}")
	expectUnrolled(t, "{-[]->}*{<-[]-}*", 3, "{()|-[]->|-[]->-[]->|-[]->-[]->-[]->}{()|<-[]-|<-[]-<-[]-|<-[]-<-[]-<-[]-}")
	expectUnrolled(t, "{-[]->}*{<-[]-}*", 4, "")
	expectUnrolled(t, "{{-[]->}^5,5}^5,5", 0, "")
	expectUnrolled(t, "{{-[]->}^4,4}^5,5", 0, edges(20))
	expectUnrolled(t, "{{{{{{{{{-[]->}^9,9}^9,9}^9,9}^9,9}^9,9}^9,9}^9,9}^9,9}^9,9", 4, "")
	expectUnrolled(t, "{{{{{{{{{-[]->}+}+}+}+}+}+}+}+}+", 4, "")
	expectUnrolled(t, "{{{{{{{{{-[]->}+}+}+}+}+}+}+}+}+", 1, "-[]->")
	// No times of what is too great are an element without anything.
	expectUnrolled(t, "{{{{{{{{{-[]->}^9,9}^9,9}^9,9}^9,9}^9,9}^9,9}^9,9}^9,9}*", 0, "()")
	expectUnrolled(t, "{{{{{{{{{-[]->}^9,9}^9,9}^9,9}^9,9}^9,9}^9,9}^9,9}^9,9}*", 1, "")
	expectUnrolled(t, "{-[]->|{{{{-[]->}^9,9}^9,9}^9,9}?}", 0, "{-[]->|()}")
	expectUnrolled(t, "{-[]->|{{{{-[]->}^9,9}^9,9}^9,9}?}", 1, "")
	expectUnrolled(t, "(:a){{{-[]->}^9,9}^9,9|<-[]-}*(:b)", 0, "(:a&b)")
	// So many nodes on a way down.
	for way := 2; way <= 10; way++ {
		for _, makers := range [][]func(impl.Pat) impl.Pat{{inSeq, inAlt}, {inSeqBehind, inAlt}} {
			p := patDeep(way-1, rep(anEdge, 1, 2), makers...)
			unrolled, ok := impl.UnrollPat(p, 4)
			if want := plainUnrolled(p, 4); way == 10 {
				expectNoPat(t, "UnrollPat with 11 nodes on a way", unrolled, ok)
			} else if !ok || !plainPatSame(unrolled, want) || wayOf(want) != way+1 {
				t.Errorf("UnrollPat of %s = %s, %v", impl.FormatPat(p), impl.FormatPat(unrolled), ok)
			}
		}
	}
}

// Elements that can't be merged in a repetition can be when there is another one
// in front of it: of a part with 25 nodes, the result then has 24.
func TestUnrollPatOfPartsThatAreTooGreatAlone(t *testing.T) {
	labels := func(e impl.Expr) impl.Pat { return one(impl.Elem{Node: true, Labels: e}) }
	kids := append([]impl.Pat{labels(wide(17)), labels(and(atom("b"), wide(17)))}, slices.Repeat([]impl.Pat{anEdge}, 4)...)
	part := rep(seq(kids...), 4, 4)
	unrolled, ok := impl.UnrollPat(part, 4)
	expectNoPat(t, "UnrollPat of 25 nodes", unrolled, ok)
	p := seq(labels(atom("b")), part)
	unrolled, ok = impl.UnrollPat(p, 4)
	want := plainUnrolled(p, 4)
	if !ok || !plainPatSame(unrolled, want) || impl.PatSize(want) != 24 || impl.PatSize(plainUnrolled(part, 4)) != 25 {
		t.Errorf("UnrollPat(%s) = %s, %v", impl.FormatPat(p), impl.FormatPat(unrolled), ok)
	}
	// For one time, the part itself is there: its elements are not merged once more.
	big := labels(and(wide(9), chained(8, atom("a"))))
	once := rep(seq(big, labels(wide(9)), labels(chained(8, atom("a"))), anEdge), 1, 2)
	unrolled, ok = impl.UnrollPat(once, 1)
	if !ok || !plainPatSame(unrolled, seq(big, big, anEdge)) {
		t.Errorf("UnrollPat(%s, 1) = %s, %v", impl.FormatPat(once), impl.FormatPat(unrolled), ok)
	}
	unrolled, ok = impl.UnrollPat(once, 2)
	if !ok || !plainPatSame(unrolled, alt(seq(big, big, anEdge), seq(big, anEdge, big, anEdge))) {
		t.Errorf("UnrollPat(%s, 2) = %s, %v", impl.FormatPat(once), impl.FormatPat(unrolled), ok)
	}
}

func TestUnrollPatOfInvalidPats(t *testing.T) {
	for what, p := range brokenPats() {
		for most := range 5 {
			unrolled, ok := impl.UnrollPat(p, most)
			expectNoPat(t, "UnrollPat of "+what, unrolled, ok)
		}
	}
	for _, text := range []string{"(x)", "-[e]->", "(x){-[]->}*", "{-[e]->}*", "{-[]->(n)}^1,1", "{-[]->|-[e]->}?", "{{{-[e]->}+}+}*", "()-[]->{()|(x)}", "{-[]->}*{-[]->{<-[e]-}*}?"} {
		for most := range 5 {
			expectUnrolled(t, text, most, "")
		}
	}
}

// Promise 7, for unrolled patterns: they are those that the document says, and
// have the same walks, as far as these have at most so many edges.
func TestUnrolledPatternsHaveTheSameWalks(t *testing.T) {
	count, great, found := 0, 0, 0
	g, other := parsed(t, round), parsed(t, "(a 1)(b 2)( 3)[0>1 r 3][1>2  4][2>2 a 5]")
	for _, p := range rewritten() {
		most := count % 5
		unrolled, ok := impl.UnrollPat(p, most)
		if hasVars(p) {
			expectNoPat(t, "UnrollPat of "+impl.FormatPat(p), unrolled, ok)
			p, _ = impl.StripVars(p)
			unrolled, ok = impl.UnrollPat(p, most)
		}
		if counts := edgeCounts(p); slices.Index(counts[:], true) > 20 {
			continue
		}
		count++
		want := plainUnrolled(p, most)
		if !plainPatValid(want) {
			great++
			expectNoPat(t, "UnrollPat of "+impl.FormatPat(p), unrolled, ok)
			continue
		}
		if !ok || !plainPatSame(unrolled, want) || slices.ContainsFunc(partsOf(unrolled), func(part impl.Pat) bool { return part.Op == impl.PatRep }) {
			t.Fatalf("UnrollPat(%s, %d) = %s, %v, not %s", impl.FormatPat(p), most, impl.FormatPat(unrolled), ok, impl.FormatPat(want))
		}
		most = min(most, 3)
		walks, ok := impl.WalksOf(g, p, 1, most)
		found += len(walks)
		if ok && !impl.SameWalks(g, p, unrolled, 1, most) || !impl.SameWalks(other, p, unrolled, 1+count%4, most) {
			t.Fatalf("UnrollPat(%s, %d) = %s has other walks", impl.FormatPat(p), most, impl.FormatPat(unrolled))
		}
	}
	if count < 4000 || great < 50 || count-great < 3500 || found < 10000 {
		t.Errorf("of %d patterns, %d are too great, and the others have %d walks", count, great, found)
	}
}

func TestSameWalks(t *testing.T) {
	const small = "(a 1)(b 2)[0>1 r 1]"
	for _, x := range []struct {
		graph, p, q string
		mode, most  int
		want        bool
	}{
		{small, "(x:a){-[e]->}+", "(:a)-[]->", 1, 2, true}, {small, "(x:a){-[e]->}+", "-[:s]->", 1, 2, false}, {small, "-[:s]->", "(:c)", 1, 4, true}, {small, "()", "(x)", 1, 4, true}, {small, "(:a)", "(:b)", 1, 4, false}, {small, "(:a)", "(:a?<5)", 1, 4, true},
		{small, "(:a)", "()", 1, 4, false}, {small, "()", "(:a)", 1, 4, false}, {small, "-[]->", "<-[]-", 1, 4, false}, {small, "(:a)-[]-", "-[]->", 1, 4, true}, {small, "-[:s]->", "()", 1, 0, false}, {small, "{-[e]->|-[f]->|-[]->}", "-[]->", 1, 1, true},
		{small, "{(x)|(x)(y)|(y)}", "()", 2, 2, true}, {small, "-[]->", "<-[]-", 1, 0, true}, {small, "{-[]-}*", "{-[]-}?", 1, 1, true}, {small, "{-[]-}*", "{-[]-}?", 1, 2, false}, {small, "{-[]-}*", "{-[]-}?", 2, 4, true},
		{round, "{-[]->}+", "{{-[]->}+}+", 1, 3, true}, {round, "{-[]->}^1,2", "{-[]->|-[]->-[]->}", 1, 4, true}, {round, "{-[]->}^1,2", "{-[]->-[]->|-[]->}", 1, 4, true}, {round, "{-[]->}^1,3", "{-[]->}^1,2", 1, 2, true}, {round, "{-[]->}^1,3", "{-[]->}^1,2", 1, 3, false},
		{round, "(x){-[]->}^3,3(x)", "{-[]->}^3,3", 4, 3, true}, {round, "(x){-[]->}^3,3(x)", "{-[]->}^3,3", 2, 3, false}, {round, "(x)-[]->(x)", "-[:t]->", 1, 4, true}, {round, "(x)-[]->(x)", "-[:s]->", 3, 4, false}, {round, "(x)-[]->(x)", "(:c)", 3, 4, true},
	} {
		g := parsed(t, x.graph)
		if got, other := impl.SameWalks(g, patOf(t, x.p), patOf(t, x.q), x.mode, x.most), impl.SameWalks(g, patOf(t, x.q), patOf(t, x.p), x.mode, x.most); got != x.want || other != x.want {
			t.Errorf("SameWalks(%s, %s, %s, %d, %d) = %v, and the other way round %v", x.graph, x.p, x.q, x.mode, x.most, got, other)
		}
	}
}

func TestSameWalksOfInvalidArguments(t *testing.T) {
	g, p := parsed(t, round), patOf(t, "(:a)")
	for mode := -2; mode <= 7; mode++ {
		for most := -2; most <= 7; most++ {
			if got := impl.SameWalks(g, p, p, mode, most); got != (mode >= 1 && mode <= 4 && most >= 0 && most <= 4) {
				t.Errorf("SameWalks for %d and %d = %v", mode, most, got)
			}
		}
	}
	for what, bad := range invalidGraphs() {
		if impl.SameWalks(bad, p, p, 1, 2) || impl.SameWalks(bad, aNode, aNode, 2, 0) {
			t.Errorf("SameWalks accepts a graph with %s", what)
		}
	}
	for what, bad := range brokenPats() {
		if impl.SameWalks(g, bad, p, 1, 2) || impl.SameWalks(g, p, bad, 1, 2) || impl.SameWalks(g, bad, bad, 1, 2) || impl.SameWalks(g, patOf(t, "(:c)"), bad, 1, 2) {
			t.Errorf("SameWalks accepts %.80s", what)
		}
	}
	// Too many matches are no walks, even if there are few of these, or none of the other pattern.
	many := patOf(t, manyWays)
	for _, x := range []struct {
		r    int
		want bool
	}{{10, true}, {11, false}} {
		for _, q := range []string{manyWays, "-[]->", "-[:r]->"} {
			g := labelledEdges(x.r, 0)
			if impl.SameWalks(g, many, patOf(t, q), 1, 1) != x.want || impl.SameWalks(g, patOf(t, q), many, 1, 1) != x.want {
				t.Errorf("SameWalks of %d edges and %s is not %v", x.r, q, x.want)
			}
		}
		if impl.SameWalks(labelledEdges(x.r, 0), many, patOf(t, "(:c)"), 1, 1) {
			t.Error("SameWalks accepts a pattern without walks")
		}
	}
}

// rewrites are the functions that return another pattern.
func rewrites() map[string]func(p impl.Pat) (impl.Pat, bool) {
	return map[string]func(p impl.Pat) (impl.Pat, bool){
		"StripVars":   impl.StripVars,
		"SimplifyPat": impl.SimplifyPat,
		"UnrollPat":   func(p impl.Pat) (impl.Pat, bool) { return impl.UnrollPat(p, 2) },
	}
}

// roomyPat returns a small pattern in new memory, with more memory behind each
// list of parts, and a mark in it.
func roomyPat(p impl.Pat) impl.Pat {
	c := copiedPat(p)
	kids := append([]impl.Pat{}, c.Kids...)
	for i, kid := range p.Kids {
		kids[i] = roomyPat(kid)
	}
	c.Kids = append(kids, node("mark"), node("mark"))[:len(kids)]
	return c
}

// marksStay reports whether all marks of a pattern with more memory are there.
func marksStay(p impl.Pat) bool {
	behind := p.Kids[:len(p.Kids)+2][len(p.Kids):]
	return plainPatSame(behind[0], node("mark")) && plainPatSame(behind[1], node("mark")) && !slices.ContainsFunc(p.Kids, func(kid impl.Pat) bool { return !marksStay(kid) })
}

func TestRewrittenPatsShareNoMemory(t *testing.T) {
	list := manyPats(300, []impl.Pat{aNode, one(impl.Elem{Node: true, Labels: not(atom("a")), Cond: not(atom("<5"))}), one(impl.Elem{Node: true, Labels: or(atom("a"), atom("b"))}), anEdge, one(impl.Elem{Labels: and(atom("r"), not(atom("s"))), Dir: impl.DirLeft})})
	for _, x := range patsWithTexts() {
		list = append(list, x.p)
	}
	for _, original := range list {
		for name, rewrite := range rewrites() {
			p := roomyPat(original)
			first, ok := rewrite(p)
			second, _ := rewrite(p)
			want := copiedPat(second)
			if !ok {
				continue
			}
			wipePat(first)
			if !plainPatSame(second, want) || !plainPatSame(p, original) || !marksStay(p) {
				t.Fatalf("%s of %s shares memory with its argument or another result", name, impl.FormatPat(original))
			}
			wipePat(p)
			if !plainPatSame(second, want) {
				t.Fatalf("%s of %s is in the memory of its argument", name, impl.FormatPat(original))
			}
			// No part of a result is in the memory of another one.
			for i := range second.Kids {
				wipePat(second.Kids[i])
				second.Kids[i] = copiedPat(want.Kids[i])
				if !plainPatSame(second, want) {
					t.Fatalf("%s of %s has parts in the same memory", name, impl.FormatPat(original))
				}
			}
		}
	}
}

func TestMergedElemsShareNoMemory(t *testing.T) {
	part := not(atom("a"))
	for _, pair := range [][2]impl.Elem{
		{{Node: true, Labels: part}, {Node: true, Cond: not(atom("<5"))}}, {{Node: true, Labels: part}, {Node: true, Labels: part}}, {{Node: true, Labels: or(part, part)}, {Node: true, Var: "x", Labels: part}}, {{Node: true}, {Node: true, Labels: part, Cond: not(anything)}}, {{Node: true, Cond: not(atom("<5"))}, {Node: true, Cond: not(anything)}},
	} {
		a, b := copiedElem(pair[0]), copiedElem(pair[1])
		first, ok := impl.MergeElems(a, b)
		second, _ := impl.MergeElems(a, b)
		want := copiedElem(second)
		wipeElem(first)
		if !ok || !plainElemSame(second, want) || !plainElemSame(a, pair[0]) || !plainElemSame(b, pair[1]) {
			t.Errorf("MergeElems of %v shares memory with its arguments or another result", pair)
		}
		wipeElem(a)
		wipeElem(b)
		if !plainElemSame(second, want) {
			t.Errorf("MergeElems of %v is in the memory of its arguments", pair)
		}
	}
	// Equal parts are not in the same memory, nor in that behind the argument.
	big := or(part, and(part, part))
	merged, ok := impl.MergeElems(impl.Elem{Node: true, Labels: part}, impl.Elem{Node: true, Labels: big})
	wipeExpr(merged.Labels.Kids[0])
	if !ok || !plainSame(merged.Labels.Kids[1], big) {
		t.Errorf("parts of the result of MergeElems share memory: %v", merged)
	}
	behind := []impl.Expr{atom("mark")}
	none := impl.Expr{Kids: behind[:0]}
	merged, ok = impl.MergeElems(impl.Elem{Node: true, Labels: none, Cond: none}, impl.Elem{Node: true, Labels: none, Cond: impl.Expr{Op: impl.ExprAny, Kids: behind[:0]}})
	wipeElem(merged)
	if !ok || !plainSame(behind[0], atom("mark")) {
		t.Errorf("MergeElems has memory of its arguments: %v", merged)
	}
}

func TestReadingLeavesRewrittenPatsAlone(t *testing.T) {
	for _, x := range patsWithTexts() {
		p, g := roomyPat(x.p), roomy()
		impl.PatSize(p)
		impl.SameWalks(g, p, p, 1, 2)
		if !plainPatSame(p, x.p) || !marksStay(p) || !impl.GraphSame(whole(g), whole(roomy())) {
			t.Errorf("a function that reads %s changes it, or the graph", x.text)
		}
	}
}
