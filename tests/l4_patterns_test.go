package tests

import (
	"regexp"
	"slices"
	"strconv"
	"strings"
	"testing"

	"loop.example/graphpatterns/impl"
)

// aNode and anEdge are patterns of one element without anything.
var (
	aNode  = node("")
	anEdge = edge("")
)

func one(e impl.Elem) impl.Pat { return impl.Pat{Op: impl.PatElem, Elem: e} }

func node(name string) impl.Pat { return one(impl.Elem{Node: true, Var: name}) }

func edge(name string) impl.Pat { return one(impl.Elem{Var: name, Dir: impl.DirRight}) }

func seq(kids ...impl.Pat) impl.Pat { return impl.Pat{Op: impl.PatSeq, Kids: kids} }

func alt(kids ...impl.Pat) impl.Pat { return impl.Pat{Op: impl.PatAlt, Kids: kids} }

func rep(part impl.Pat, lo int, hi int) impl.Pat {
	return impl.Pat{Op: impl.PatRep, Kids: []impl.Pat{part}, Lo: lo, Hi: hi}
}

// times returns a pattern repeated by each of counts, the first one outermost.
func times(part impl.Pat, counts ...int) impl.Pat {
	for _, count := range slices.Backward(counts) {
		part = rep(part, count, count)
	}
	return part
}

// patDeep returns a pattern with so many nodes on its longest way down, whose
// nodes above the last one are made in turn by these functions.
func patDeep(way int, last impl.Pat, makers ...func(impl.Pat) impl.Pat) impl.Pat {
	p := last
	for i := range way - 1 {
		p = makers[i%len(makers)](p)
	}
	return p
}

func inRep(p impl.Pat) impl.Pat { return rep(p, 1, -1) }

func inSeq(p impl.Pat) impl.Pat { return seq(p, anEdge) }

func inSeqBehind(p impl.Pat) impl.Pat { return seq(anEdge, p) }

func inAlt(p impl.Pat) impl.Pat { return alt(anEdge, p) }

// patLooped returns a pattern that is a part of itself.
func patLooped(op int) impl.Pat {
	kids := []impl.Pat{anEdge, anEdge}
	p := impl.Pat{Op: op, Kids: kids}
	if op == impl.PatRep {
		p.Lo, p.Hi, p.Kids = 1, 1, kids[:1]
	}
	p.Kids[len(p.Kids)-1] = p
	return p
}

// patShared returns a pattern that has so many nodes on a way down, each of
// which has its part so many times, in the same memory.
func patShared(way int, width int, last impl.Pat) impl.Pat {
	p := last
	for i := range way - 1 {
		p = impl.Pat{Op: impl.PatSeq + i%2, Kids: slices.Repeat([]impl.Pat{p}, width)}
	}
	return p
}

// textedPat is a pattern with its text.
type textedPat struct {
	text string
	p    impl.Pat
}

// patsWithTexts returns patterns of each Op, with the texts that they have.
func patsWithTexts() []textedPat {
	left, both := one(impl.Elem{Dir: impl.DirLeft}), one(impl.Elem{Dir: impl.DirAny})
	x, y, e, f := node("x"), node("y"), edge("e"), edge("f")
	labelled := one(impl.Elem{Var: "e", Labels: or(atom("a"), atom("b")), Cond: and(atom("<5"), not(atom("=2"))), Dir: impl.DirLeft})
	choice := alt(anEdge, left)
	list := []textedPat{
		{"()", aNode}, {"(x)", x}, {"-[]->", anEdge}, {"<-[]-", left}, {"-[]-", both}, {"<-[e:a|b?<5&!=2]-", labelled},
		{"()()", seq(aNode, aNode)}, {"(x)-[e]->(y)", seq(x, e, y)}, {"-[]--[]->", seq(both, anEdge)}, {"-[]-<-[]-", seq(both, left)},
		{"-[]-><-[]-", seq(anEdge, left)}, {"<-[]--[]-", seq(left, both)}, {"-[]--[]-(x)(y)", seq(both, both, x, y)}, {"(x)(x)(x)", seq(x, x, x)},
		{"{()|()}", alt(aNode, aNode)}, {"{(x)|(y)|-[]->}", alt(x, y, anEdge)}, {"{(x)-[]->|-[e]->(y)}", alt(seq(x, anEdge), seq(e, y))},
		{"{(x)-[]->|(x)<-[]-}(y)", seq(alt(seq(x, anEdge), seq(x, left)), y)}, {"{-[]->|<-[]-}{(x)|()}", seq(choice, alt(x, aNode))},
		{"{{-[]->|<-[]-}(x)|-[e]->}", alt(seq(choice, x), e)}, {"(x){-[e]->}+(y)", seq(x, rep(e, 1, -1), y)}, {"{-[]->(n)-[]->}^2,3", rep(seq(anEdge, node("n"), anEdge), 2, 3)},
		// A PatAlt that is repeated has no braces but its own, and another pattern has braces.
		{"{-[]->|<-[]-}*", rep(choice, 0, -1)}, {"{-[]->|<-[]-}^1,1", rep(choice, 1, 1)}, {"{{-[]->|<-[]-}+}+", rep(rep(choice, 1, -1), 1, -1)},
		{"{{-[]->|<-[]-}()}?", rep(seq(choice, aNode), 0, 1)}, {"{(){-[]->|<-[]-}}?", rep(seq(aNode, choice), 0, 1)}, {"{{-[]->}+|-[e]->(x)}^2,", rep(alt(inRep(anEdge), seq(e, x)), 2, -1)},
		{"{{-[]->}+}+", inRep(inRep(anEdge))}, {"{-[]->}*{<-[]-}+{-[]-}?", seq(rep(anEdge, 0, -1), inRep(left), rep(both, 0, 1))}, {"{{-[]->}*|{-[]->}?}", alt(rep(anEdge, 0, -1), rep(anEdge, 0, 1))},
		{"{-[]->}^2,-[]->", seq(rep(anEdge, 2, -1), anEdge)}, {"{-[]->}^0,3<-[]-", seq(rep(anEdge, 0, 3), left)}, {"{-[]->}^2,{-[]->}^3,4", seq(rep(anEdge, 2, -1), rep(anEdge, 3, 4))},
		// Variables in several places.
		{"{-[e]->(x)(x)}*", rep(seq(e, x, x), 0, -1)}, {"{-[e]->(x)|<-[]-(x)}+(y)", seq(inRep(alt(seq(e, x), seq(left, x))), y)}, {"{-[e]->}+{-[f]->}+", seq(inRep(e), inRep(f))},
		{"{{-[e]->}+-[f]->(x)}+(y)", seq(inRep(seq(inRep(e), f, x)), y)}, {"{(x)|(y)-[e]->}{(y)|(x)<-[e:a|b?<5&!=2]-}", seq(alt(x, seq(y, e)), alt(y, seq(x, labelled)))},
	}
	for lo := range 10 {
		for _, hi := range []int{-1, 1, 2, 3, 4, 5, 6, 7, 8, 9} {
			if hi < lo && hi != -1 {
				continue
			}
			text := "^" + number(lo) + ","
			if hi != -1 {
				text += number(hi)
			}
			if short, ok := map[[2]int]string{{0, -1}: "*", {1, -1}: "+", {0, 1}: "?"}[[2]int{lo, hi}]; ok {
				text = short
			}
			list = append(list, textedPat{"{-[e]->}" + text, rep(e, lo, hi)}, textedPat{"{-[]->|<-[]-}" + text + "(x)", seq(rep(choice, lo, hi), x)})
		}
	}
	return list
}

// brokenPats returns patterns that break one rule each.
func brokenPats() map[string]impl.Pat {
	x, e := node("x"), edge("e")
	list := map[string]impl.Pat{
		"the zero value": {}, "Op 0": {Elem: anEdge.Elem}, "Op -1": {Op: -1, Elem: anEdge.Elem}, "Op 5": {Op: 5, Kids: []impl.Pat{e, e}}, "Op 5 of one": {Op: 5, Kids: []impl.Pat{e}},
		"a bad first part": seq(impl.Pat{}, e), "a bad last part": alt(e, e, impl.Pat{}), "a bad repeated part": rep(impl.Pat{}, 1, 1), "a bad part below": seq(e, rep(alt(e, seq(e, impl.Pat{})), 1, 2)),
		"an element with a sequence": {Op: impl.PatElem, Elem: anEdge.Elem, Kids: []impl.Pat{seq(e, e)}}, "an element with a repetition": {Op: impl.PatElem, Elem: aNode.Elem, Kids: []impl.Pat{inRep(e)}},
		"a sequence in one": seq(e, seq(e, e)), "a sequence first in one": seq(seq(e, e), e), "a sequence in the second one": alt(e, seq(x, e, seq(x, x))),
		"a choice in one": alt(e, alt(e, e)), "a choice first in one": alt(alt(x, x), x), "a choice in a repeated one": rep(alt(e, alt(e, e), e), 0, 1),
		"25 nodes": seq(slices.Repeat([]impl.Pat{e}, 24)...), "25 nodes of a choice": alt(slices.Repeat([]impl.Pat{e}, 24)...), "many nodes": seq(slices.Repeat([]impl.Pat{aNode}, 100000)...),
		"25 nodes, below": seq(alt(slices.Repeat([]impl.Pat{x}, 11)...), alt(slices.Repeat([]impl.Pat{x}, 11)...)), "11 nodes on a way": patDeep(11, e, inRep), "many repetitions": patDeep(100000, e, inRep),
		"11 nodes on a way of all kinds": patDeep(11, anEdge, inRep, inSeq, inAlt), "a part of itself": patLooped(impl.PatSeq), "a choice of itself": patLooped(impl.PatAlt), "a repetition of itself": patLooped(impl.PatRep),
		"parts in the same memory": patShared(9, 2, e), "many parts in the same memory": patShared(10, 1000, x), "deep parts in the same memory": patShared(60, 3, x), "itself, beside a bad part": seq(impl.Pat{}, patLooped(impl.PatSeq)),
	}
	for op, name := range map[int]string{1: "an element", 2: "a sequence", 3: "a choice", 4: "a repetition"} {
		for kids := range 4 {
			right := op == 1 && kids == 0 || (op == 2 || op == 3) && kids >= 2 || op == 4 && kids == 1
			p := impl.Pat{Op: op, Kids: slices.Repeat([]impl.Pat{anEdge}, kids)}
			switch op {
			case impl.PatElem:
				p.Elem = anEdge.Elem
			case impl.PatRep:
				p.Lo, p.Hi = 1, 2
			}
			if !right {
				list[name+" with "+strings.Repeat("I", kids)+" parts"] = p
				continue
			}
			addBrokenTops(list, name, p)
		}
	}
	addBrokenVars(list)
	return list
}

// addBrokenTops adds a valid pattern with other Elem, Lo and Hi.
func addBrokenTops(list map[string]impl.Pat, name string, p impl.Pat) {
	put := func(what string, change func(p *impl.Pat)) {
		changed := copiedPat(p)
		change(&changed)
		list[name+" of "+strings.Repeat("I", len(p.Kids))+" with "+what] = changed
	}
	if p.Op == impl.PatElem {
		for what, e := range brokenElems() {
			put(what, func(p *impl.Pat) { p.Elem = e })
		}
	} else {
		for what, e := range map[string]impl.Elem{
			"Node": {Node: true}, "an edge": {Dir: impl.DirRight}, "Var": {Var: "x"}, "Dir -1": {Dir: -1}, "Labels": {Labels: atom("a")}, "Cond": {Cond: anything},
			"an empty part of Labels": {Labels: impl.Expr{Kids: []impl.Expr{{}}}}, "an empty part of Cond": {Cond: impl.Expr{Kids: []impl.Expr{{}}}}, "a bad Atom": {Cond: impl.Expr{Atom: " "}},
		} {
			put(what, func(p *impl.Pat) { p.Elem = e })
		}
	}
	for _, pair := range [][2]int{{0, 1}, {1, 0}, {1, 1}, {0, -1}, {-1, 0}, {0, 9}, {1 << 40, 0}, {-1, -1}, {0, -1 << 63}} {
		if p.Op != impl.PatRep {
			put("times "+strconv.Itoa(pair[0])+" and "+strconv.Itoa(pair[1]), func(p *impl.Pat) { p.Lo, p.Hi = pair[0], pair[1] })
		}
	}
	for _, pair := range [][2]int{{0, 0}, {-1, 1}, {-1, -1}, {0, -2}, {1, 0}, {2, 1}, {9, 8}, {0, 10}, {9, 10}, {10, 10}, {10, -1}, {10, 9}, {-1 << 63, 1}, {0, 1 << 62}, {1 << 62, -1}, {1, -1 << 63}} {
		if p.Op == impl.PatRep {
			put("times "+strconv.Itoa(pair[0])+" and "+strconv.Itoa(pair[1]), func(p *impl.Pat) { p.Lo, p.Hi = pair[0], pair[1] })
		}
	}
}

// addBrokenVars adds patterns that are valid but for the places of variables,
// and for repetitions of what can have no edges.
func addBrokenVars(list map[string]impl.Pat) {
	n, e, x := node("x"), edge("x"), edge("e")
	for what, p := range map[string]impl.Pat{
		"a node and an edge": seq(n, e), "an edge and a node": seq(e, x, n), "a node or an edge": alt(n, e), "a node in a choice, and an edge": seq(alt(n, x), e), "edges and a node in a repetition": inRep(seq(e, e, n)),
		"a repetition and a node behind": seq(inRep(seq(x, n)), n), "a node and a repetition behind": seq(n, inRep(seq(x, n))), "an edge and a repetition of it": seq(x, rep(x, 0, 1)),
		"two repetitions": seq(inRep(x), inRep(x)), "two repetitions of a choice": alt(inRep(x), rep(x, 1, 1)), "a choice of a repetition, or without it": alt(inRep(x), x), "a repetition of a choice, and outside": seq(inRep(alt(seq(x, n), anEdge)), n),
		"a repetition in one, and in the outer one": inRep(seq(inRep(x), x)), "the outer one and a repetition in it": inRep(seq(x, anEdge, rep(x, 2, 2))), "two repetitions in one": inRep(seq(inRep(x), aNode, inRep(x))), "in three, and in the outermost one": inRep(seq(inRep(inRep(x)), x)),
		"a node in a repetition, and an edge": seq(inRep(seq(anEdge, n)), e), "a repetition of a nested one, and outside": seq(inRep(inRep(x)), x),
		"a repeated node": inRep(aNode), "repeated nodes": rep(seq(n, aNode), 1, 1), "a repeated choice with a node": inRep(alt(x, seq(n, n))), "a repeated repetition from 0": inRep(rep(x, 0, -1)), "a repeated repetition from 0 to 1": rep(rep(x, 0, 1), 2, 2),
		"a repeated sequence of repetitions from 0": rep(seq(rep(x, 0, 1), aNode, rep(anEdge, 0, 9)), 0, 1), "a repeated node, below": seq(anEdge, alt(anEdge, rep(aNode, 0, -1))), "a repeated choice of nodes": rep(alt(aNode, n), 9, 9),
		"a choice of a repetition from 0, repeated": rep(alt(anEdge, rep(anEdge, 0, 2)), 1, 2),
	} {
		list["variables or edges of "+what] = p
	}
}

// copiedPat returns a small pattern in new memory.
func copiedPat(p impl.Pat) impl.Pat {
	kids := make([]impl.Pat, len(p.Kids))
	for i, kid := range p.Kids {
		kids[i] = copiedPat(kid)
	}
	return impl.Pat{Op: p.Op, Elem: copiedElem(p.Elem), Kids: kids, Lo: p.Lo, Hi: p.Hi}
}

// plainPatSame reports whether two small patterns are equal; it is written
// without the package, for testing it.
func plainPatSame(a impl.Pat, b impl.Pat) bool {
	return a.Op == b.Op && plainElemSame(a.Elem, b.Elem) && a.Lo == b.Lo && a.Hi == b.Hi && slices.EqualFunc(a.Kids, b.Kids, plainPatSame)
}

// zeroPat reports whether p is the zero value.
func zeroPat(p impl.Pat) bool {
	return p.Op == 0 && zeroElem(p.Elem) && len(p.Kids) == 0 && p.Lo == 0 && p.Hi == 0
}

// expectNoPat fails unless p is the zero value, and ok is false.
func expectNoPat(t *testing.T, what string, p impl.Pat, ok bool) {
	t.Helper()
	if ok || !zeroPat(p) {
		t.Errorf("%.80s = Op %d, %v", what, p.Op, ok)
	}
}

// patOf returns the pattern with a text that must have one.
func patOf(t *testing.T, text string) impl.Pat {
	t.Helper()
	p, ok := impl.ParsePat(text)
	if !ok {
		t.Fatalf("ParsePat(%q) fails", text)
	}
	return p
}

// partsOf returns all nodes of a small pattern.
func partsOf(p impl.Pat) []impl.Pat {
	list := []impl.Pat{p}
	for _, kid := range p.Kids {
		list = append(list, partsOf(kid)...)
	}
	return list
}

// wayOf returns the most nodes on a way down of a small pattern.
func wayOf(p impl.Pat) int {
	most := 0
	for _, kid := range p.Kids {
		most = max(most, wayOf(kid))
	}
	return most + 1
}

// countVar returns how often a variable stands in a small pattern.
func countVar(p impl.Pat, name string) int {
	count := 0
	for _, part := range partsOf(p) {
		if part.Elem.Var == name {
			count++
		}
	}
	return count
}

// plainPatValid reports whether a small pattern is valid, by the document.
func plainPatValid(p impl.Pat) bool {
	parts := partsOf(p)
	if len(parts) > 24 || wayOf(p) > 10 {
		return false
	}
	kinds := map[string]bool{}
	for _, part := range parts {
		if !plainTopValid(part) {
			return false
		}
		name := part.Elem.Var
		if kind, ok := kinds[name]; name != "" && ok && kind != part.Elem.Node {
			return false
		}
		kinds[name] = part.Elem.Node
	}
	for _, part := range parts {
		for name := range kinds {
			inside := countVar(part, name)
			if part.Op == impl.PatRep && name != "" && inside != 0 && inside != countVar(p, name) {
				return false
			}
		}
	}
	return true
}

// plainTopValid reports whether a node with small and valid parts is valid.
func plainTopValid(p impl.Pat) bool {
	none := zeroElem(p.Elem)
	switch p.Op {
	case impl.PatElem:
		return impl.ElemValid(p.Elem) && len(p.Kids) == 0 && p.Lo == 0 && p.Hi == 0
	case impl.PatSeq, impl.PatAlt:
		nested := slices.ContainsFunc(p.Kids, func(kid impl.Pat) bool { return kid.Op == p.Op })
		return none && len(p.Kids) >= 2 && p.Lo == 0 && p.Hi == 0 && !nested
	case impl.PatRep:
		if !none || len(p.Kids) != 1 || p.Lo < 0 || p.Lo > 9 {
			return false
		}
		return (p.Hi == -1 || p.Hi >= 1 && p.Hi >= p.Lo && p.Hi <= 9) && !edgeCounts(p.Kids[0])[0]
	}
	return false
}

// manyEdges is more than the small patterns of these tests have without a
// repetition that has no limit.
const manyEdges = 40

// edgeCounts returns which numbers of edges up to manyEdges the walks of a
// small pattern can have.
func edgeCounts(p impl.Pat) [manyEdges + 1]bool {
	none := [manyEdges + 1]bool{0: true}
	switch p.Op {
	case impl.PatElem:
		if p.Elem.Node {
			return none
		}
		return [manyEdges + 1]bool{1: true}
	case impl.PatSeq:
		sum := none
		for _, kid := range p.Kids {
			sum = addCounts(sum, edgeCounts(kid))
		}
		return sum
	case impl.PatRep:
		var found [manyEdges + 1]bool
		part, sum := edgeCounts(p.Kids[0]), none
		for count := 0; count <= manyEdges && (p.Hi == -1 || count <= p.Hi); count++ {
			for i, ok := range sum {
				found[i] = found[i] || ok && count >= p.Lo
			}
			sum = addCounts(sum, part)
		}
		return found
	}
	var found [manyEdges + 1]bool
	for _, kid := range p.Kids {
		for i, ok := range edgeCounts(kid) {
			found[i] = found[i] || ok
		}
	}
	return found
}

// addCounts returns all sums of a number of each of both.
func addCounts(a [manyEdges + 1]bool, b [manyEdges + 1]bool) [manyEdges + 1]bool {
	var sums [manyEdges + 1]bool
	for i := range a {
		for j := range b {
			if a[i] && b[j] && i+j <= manyEdges {
				sums[i+j] = true
			}
		}
	}
	return sums
}

func TestPatValid(t *testing.T) {
	for _, x := range patsWithTexts() {
		if !impl.PatValid(x.p) || !plainPatValid(x.p) {
			t.Errorf("PatValid of %s does not hold", x.text)
		}
	}
	for what, p := range brokenPats() {
		if impl.PatValid(p) {
			t.Errorf("PatValid accepts %.80s", what)
		}
	}
	empty := impl.Elem{Labels: impl.Expr{Kids: []impl.Expr{}}, Cond: impl.Expr{Kids: []impl.Expr{}}}
	leaf := impl.Pat{Op: impl.PatElem, Elem: anEdge.Elem, Kids: []impl.Pat{}}
	if !impl.PatValid(leaf) || !impl.PatValid(impl.Pat{Op: impl.PatSeq, Elem: empty, Kids: []impl.Pat{leaf, leaf}}) {
		t.Error("PatValid distinguishes nil and empty slices")
	}
}

func TestPatValidOfTimes(t *testing.T) {
	for lo := -3; lo <= 12; lo++ {
		for hi := -3; hi <= 12; hi++ {
			want := lo >= 0 && lo <= 9 && (hi == -1 || hi >= 1 && hi >= lo && hi <= 9)
			if got := impl.PatValid(rep(anEdge, lo, hi)); got != want {
				t.Errorf("PatValid of a repetition from %d to %d = %v", lo, hi, got)
			}
			if got := impl.PatValid(seq(aNode, rep(alt(anEdge, anEdge), lo, hi))); got != want {
				t.Errorf("PatValid of a repeated choice from %d to %d = %v", lo, hi, got)
			}
			for _, p := range []impl.Pat{aNode, anEdge, seq(aNode, anEdge), alt(aNode, anEdge)} {
				p.Lo, p.Hi = lo, hi
				if got := impl.PatValid(p); got != (lo == 0 && hi == 0) {
					t.Errorf("PatValid of Op %d with %d and %d = %v", p.Op, lo, hi, got)
				}
			}
		}
	}
}

func TestPatValidWithinLimits(t *testing.T) {
	for parts := 2; parts <= 30; parts++ {
		for _, part := range []impl.Pat{aNode, anEdge, node("x")} {
			kids := slices.Repeat([]impl.Pat{part}, parts)
			if impl.PatValid(seq(kids...)) != (parts+1 <= 24) || impl.PatValid(alt(kids...)) != (parts+1 <= 24) {
				t.Errorf("PatValid of %d parts is wrong", parts)
			}
		}
		edges := slices.Repeat([]impl.Pat{anEdge}, parts)
		if impl.PatValid(rep(seq(edges...), 0, 1)) != (parts+2 <= 24) || impl.PatValid(seq(aNode, alt(edges...))) != (parts+3 <= 24) {
			t.Errorf("PatValid of %d parts below is wrong", parts)
		}
	}
	for way := 1; way <= 20; way++ {
		for i, p := range []impl.Pat{
			patDeep(way, anEdge, inRep), patDeep(way, anEdge, inSeq, inAlt), patDeep(way, anEdge, inAlt, inSeqBehind), patDeep(way, anEdge, inRep, inSeq, inAlt), patDeep(way, anEdge, inSeqBehind, inRep), patDeep(way, anEdge, inAlt, inRep),
		} {
			if got := impl.PatValid(p); got != (way <= 10) {
				t.Errorf("PatValid of %d nodes on a way of the kind %d = %v", way, i, got)
			}
		}
	}
	// Expressions have nodes of their own, which do not count.
	full := one(impl.Elem{Node: true, Labels: wide(20), Cond: chained(11, atom("<5"))})
	if !impl.PatValid(seq(slices.Repeat([]impl.Pat{full}, 23)...)) || impl.PatValid(one(impl.Elem{Node: true, Labels: wide(21)})) {
		t.Error("PatValid is wrong for large expressions")
	}
	// Both limits at once: 24 nodes, with 10 of them on a way.
	most := seq(append(slices.Repeat([]impl.Pat{aNode}, 14), patDeep(9, anEdge, inRep))...)
	if !impl.PatValid(most) || impl.PatValid(seq(append(most.Kids, aNode)...)) || impl.PatValid(patDeep(11, anEdge, inRep)) {
		t.Error("PatValid is wrong at both limits")
	}
}

// A variable in a repetition stands nowhere outside of it, and all elements in
// which it stands are of one kind.
func TestPatValidOfVariables(t *testing.T) {
	for text, want := range map[string]bool{
		"(x)(x)": true, "-[x]->-[x]->": true, "(x)-[x]->": false, "{(x)|-[x]->}": false, "{(x)|(x)-[]->}": true, "(x){-[]->|(x)}": true, "(x){-[]->|<-[x]-}": false, "-[x]->{()|(x)}": false,
		"{-[x]->}*": true, "{-[x]->-[x]->}*": true, "{-[x]->(x)}*": false, "{-[e]->(x)}+(y)": true, "{-[e]->(x)}+(x)": false, "(x){-[e]->(x)}+": false, "(e){-[e]->}*": false, "{-[e]->}?-[e]->": false,
		"{-[e]->}^1,1-[e]->": false, "{-[e]->}*{-[e]->}*": false, "{-[e]->}*{-[f]->}*": true, "{{-[e]->}*|{-[e]->}*}": false, "{{-[e]->}*|-[e]->}": false, "{{-[e]->}*|-[f]->}-[f]->": true,
		"{-[e]->|<-[e]-}+": true, "{-[e]->|<-[e]-}+(e)": false, "{-[e]->|<-[f]-}+-[f]->": false, "{-[e]->(x)|<-[f]-(x)}+": true, "{-[e]->(x)|<-[f]-(y)}+(z)": true, "{-[e]->(x)|<-[x]-}+": false,
		"{{-[e]->}+}+": true, "{{-[e]->}+-[e]->}+": false, "{-[e]->{-[e]->}+}+": false, "{{-[e]->}+-[f]->}+": true, "{{-[e]->}+{-[e]->}+}+": false, "{{-[e]->}+(x)-[f]->(x)}+": true, "{{-[e]->(x)}+(x)}+": false,
		"{{{-[e]->}+}+-[e]->}+": false, "{{{-[e]->-[e]->}+}+-[f]->}+(x)": true, "{{-[e]->}+}+-[e]->": false, "-[e]->{{-[f]->}+}+": true,
	} {
		p, ok := impl.ParsePat(text)
		if ok != want || ok != impl.PatValid(p) || !ok && !zeroPat(p) {
			t.Errorf("ParsePat(%q) = %v, %v", text, p, ok)
		}
	}
}

// Patterns of nodes only have no edges, and can't be repeated.
func TestPatternsOfNodesOnly(t *testing.T) {
	for _, text := range []string{"()", "(x)", "(x:a)(y?<5)", "(x)(x)(x)", "{(x)|(y)}", "{(x)(y)|(:a)}()", "(x){()|(y)()}(x)"} {
		p := patOf(t, text)
		least, ok := impl.LeastEdges(p)
		most, ok2 := impl.MostEdges(p)
		if !ok || !ok2 || least != 0 || most != 0 || impl.FormatPat(p) != text {
			t.Errorf("%s has %d to %d edges, %v, %v", text, least, most, ok, ok2)
		}
		for _, pair := range [][2]int{{0, -1}, {1, -1}, {0, 1}, {1, 1}, {2, -1}, {2, 3}} {
			if impl.PatValid(rep(p, pair[0], pair[1])) || impl.PatValid(seq(anEdge, rep(p, pair[0], pair[1]))) {
				t.Errorf("PatValid accepts %s from %d to %d times", text, pair[0], pair[1])
			}
		}
		for _, behind := range []string{"*", "+", "?", "^1,1", "^0,", "^2,3"} {
			p, ok := impl.ParsePat("{" + text + "}" + behind)
			expectNoPat(t, "ParsePat of {"+text+"}"+behind, p, ok)
		}
	}
}

func TestPatSame(t *testing.T) {
	list := patsWithTexts()
	for i, x := range list {
		for j, y := range list {
			if got := impl.PatSame(x.p, y.p); got != plainPatSame(x.p, y.p) || i == j && !got {
				t.Errorf("PatSame of %s and %s = %v", x.text, y.text, got)
			}
		}
		if !impl.PatSame(x.p, copiedPat(x.p)) {
			t.Errorf("PatSame distinguishes %s from its copy", x.text)
		}
	}
	base := seq(node("x"), rep(alt(anEdge, seq(edge("e"), node("n"))), 1, 3))
	for what, change := range map[string]func(p *impl.Pat){
		"Op":               func(p *impl.Pat) { p.Op = impl.PatAlt },
		"Lo":               func(p *impl.Pat) { p.Kids[1].Lo = 0 },
		"Hi":               func(p *impl.Pat) { p.Kids[1].Hi = -1 },
		"Lo of a sequence": func(p *impl.Pat) { p.Lo = 1 },
		"Hi of a sequence": func(p *impl.Pat) { p.Hi = 1 },
		"Node below":       func(p *impl.Pat) { p.Kids[1].Kids[0].Kids[1].Kids[1].Elem.Node = false },
		"Var below":        func(p *impl.Pat) { p.Kids[1].Kids[0].Kids[1].Kids[1].Elem.Var = "m" },
		"Dir below":        func(p *impl.Pat) { p.Kids[1].Kids[0].Kids[1].Kids[0].Elem.Dir = impl.DirAny },
		"Labels":           func(p *impl.Pat) { p.Kids[0].Elem.Labels = anything },
		"Cond":             func(p *impl.Pat) { p.Kids[0].Elem.Cond = anything },
		"Elem of others":   func(p *impl.Pat) { p.Elem.Var = "x" },
		"number of parts":  func(p *impl.Pat) { p.Kids = append(p.Kids, anEdge) },
		"less parts":       func(p *impl.Pat) { p.Kids = p.Kids[:1] },
		"order of parts":   func(p *impl.Pat) { slices.Reverse(p.Kids) },
		"no parts":         func(p *impl.Pat) { p.Kids[1].Kids = nil },
	} {
		changed := copiedPat(base)
		change(&changed)
		if impl.PatSame(base, changed) || impl.PatSame(changed, base) || !impl.PatSame(changed, copiedPat(changed)) {
			t.Errorf("PatSame is wrong for another %s", what)
		}
	}
}

func TestPatSameAcceptsInvalidPats(t *testing.T) {
	again := brokenPats()
	for what, p := range brokenPats() {
		if !impl.PatSame(p, again[what]) || !impl.PatSame(p, p) || impl.PatSame(p, aNode) || impl.PatSame(anEdge, p) {
			t.Errorf("PatSame is wrong for %.80s", what)
		}
	}
	if !impl.PatSame(impl.Pat{}, impl.Pat{Kids: []impl.Pat{}}) || impl.PatSame(impl.Pat{Op: 7}, impl.Pat{Op: 8}) || impl.PatSame(impl.Pat{}, impl.Pat{Hi: 1}) {
		t.Error("PatSame is wrong for patterns without parts")
	}
	many := 300000
	if impl.PatSame(patDeep(many, aNode, inRep), patDeep(many, anEdge, inRep)) || impl.PatSame(patDeep(many, aNode, inRep), patDeep(many+1, aNode, inRep)) || !impl.PatSame(patDeep(many, aNode, inRep), patDeep(many, aNode, inRep)) {
		t.Error("PatSame does not see to the ground")
	}
	if impl.PatSame(patShared(60, 3, aNode), patShared(60, 3, anEdge)) || impl.PatSame(patLooped(impl.PatSeq), patLooped(impl.PatAlt)) || !impl.PatSame(patShared(60, 3, aNode), patShared(60, 3, aNode)) {
		t.Error("PatSame is wrong for patterns with parts in the same memory")
	}
	if once := patLooped(impl.PatSeq); !impl.PatSame(once, seq(anEdge, once)) || !impl.PatSame(patLooped(impl.PatRep), patLooped(impl.PatRep)) {
		t.Error("PatSame distinguishes a pattern from its own part")
	}
}

func TestFormatPat(t *testing.T) {
	for _, x := range patsWithTexts() {
		if s := impl.FormatPat(x.p); s != x.text {
			t.Errorf("FormatPat = %q, not %q", s, x.text)
		}
	}
	for what, p := range brokenPats() {
		if s := impl.FormatPat(p); s != "" {
			t.Errorf("FormatPat of %.80s = %q", what, s)
		}
	}
}

// Promise 4: each pattern has a text of its own, by which it is read back.
func TestPatsAreReadBack(t *testing.T) {
	texts := map[string]bool{}
	for _, x := range patsWithTexts() {
		p, ok := impl.ParsePat(x.text)
		if !ok || !plainPatSame(p, x.p) || !impl.PatSame(p, x.p) || impl.FormatPat(p) != x.text || texts[x.text] {
			t.Errorf("ParsePat(%q) = %v, %v", x.text, p, ok)
		}
		texts[x.text] = true
	}
}

// readsAs fails unless a text is read as the pattern with another text.
func readsAs(t *testing.T, text string, want string) {
	t.Helper()
	p, ok := impl.ParsePat(text)
	if s := impl.FormatPat(p); !ok || s != want {
		t.Errorf("ParsePat(%q) = %q, %v, not %q", text, s, ok, want)
	}
}

// Numbers can be written where there is a shorter sign, a repeated choice can
// be in braces of its own, and expressions can have more brackets.
func TestParsePatOfLongerTexts(t *testing.T) {
	for text, want := range map[string]string{
		"{-[]->}^0,": "{-[]->}*", "{-[]->}^1,": "{-[]->}+", "{-[]->}^0,1": "{-[]->}?", "{-[]->}^2,": "{-[]->}^2,", "{-[]->}^1,1": "{-[]->}^1,1", "{-[]->}^0,2(x)": "{-[]->}^0,2(x)",
		"{{-[]->|<-[]-}}*": "{-[]->|<-[]-}*", "{{-[]->|<-[]-}}+": "{-[]->|<-[]-}+", "{{-[]->|<-[]-}}?": "{-[]->|<-[]-}?", "{{-[]->|<-[]-}}^0,": "{-[]->|<-[]-}*", "{{-[]->|<-[]-}}^1,": "{-[]->|<-[]-}+",
		"{{-[]->|<-[]-}}^0,1": "{-[]->|<-[]-}?", "{{-[]->|<-[]-}}^3,9": "{-[]->|<-[]-}^3,9", "{-[]->|<-[]-}^0,": "{-[]->|<-[]-}*", "{-[]->|<-[]-}^2,2": "{-[]->|<-[]-}^2,2",
		"(x){{{{-[e]->|<-[]-}}+|-[f]->}}*(y)": "(x){{-[e]->|<-[]-}+|-[f]->}*(y)", "{{{-[]->|<-[]-}}^0,1|-[]->}": "{{-[]->|<-[]-}?|-[]->}", "{{{{-[]->|<-[]-}}+}}+": "", "{{{-[]->|<-[]-}}+}+": "{{-[]->|<-[]-}+}+", "{{{-[]->|<-[]-}+}^1,}^1,": "{{{-[]->|<-[]-}+}+}+",
		"(x:((a)|b))-[?(<5)]->": "(x:a|b)-[?<5]->", "{-[e:(!(r))]->|<-[:((a&b)&c)]-}^0,": "{-[e:!r]->|<-[:a&b&c]-}*", "{(:(a|b))|(x)}": "{(:a|b)|(x)}",
	} {
		if want == "" {
			p, ok := impl.ParsePat(text)
			expectNoPat(t, "ParsePat of "+text, p, ok)
			continue
		}
		readsAs(t, text, want)
	}
	for lo := range 10 {
		for hi := max(lo, 1); hi <= 9; hi++ {
			p, ok := impl.ParsePat("{-[]->}^" + number(lo) + "," + number(hi))
			if !ok || !plainPatSame(p, rep(anEdge, lo, hi)) {
				t.Errorf("ParsePat of a repetition from %d to %d = %v, %v", lo, hi, p, ok)
			}
		}
		p, ok := impl.ParsePat("{{-[]->|-[]->}}^" + number(lo) + ",")
		if !ok || !plainPatSame(p, rep(alt(anEdge, anEdge), lo, -1)) {
			t.Errorf("ParsePat of a repetition from %d = %v, %v", lo, p, ok)
		}
	}
}

func TestParsePatWithinLimits(t *testing.T) {
	reads := func(text string, want bool) {
		t.Helper()
		if p, ok := impl.ParsePat(text); ok != want || ok == zeroPat(p) {
			t.Errorf("ParsePat(%.200q) = Op %d, %v", text, p.Op, ok)
		}
	}
	for parts := 2; parts <= 30; parts++ {
		reads(strings.Repeat("(x)", parts), parts+1 <= 24)
		reads("{"+strings.Repeat("-[]->|", parts-1)+"()}", parts+1 <= 24)
		reads("{"+strings.Repeat("-[]->|", parts-1)+"<-[]-}*", parts+2 <= 24)
		reads("{{"+strings.Repeat("-[]->|", parts-1)+"<-[]-}}*", parts+2 <= 24)
		reads("{"+strings.Repeat("-[]-", parts)+"}+()", parts+4 <= 24)
		reads(strings.Repeat("{-[]-}*", parts), 2*parts+1 <= 24)
	}
	for braces := range 20 {
		open := strings.Repeat("{", braces)
		reads(open+"-[]->"+strings.Repeat("}+", braces), braces+1 <= 10)
		reads(open+"-[]->(x)"+strings.Repeat("}^0,3(x)", min(braces, 1))+strings.Repeat("}+", max(braces-1, 0)), braces == 0)
		reads(open+"-[]-><-[]-"+strings.Repeat("}^2,", braces), braces+2 <= 10)
		reads(open+"-[]->|<-[]-}"+strings.Repeat("}+", max(braces-1, 0)), braces >= 1 && braces+1 <= 10)
		reads(open+"-[]->|<-[]-}+"+strings.Repeat("}+", max(braces-1, 0)), braces >= 1 && braces+2 <= 10)
		reads(open+"-[]->"+strings.Repeat("|-[]->}()", braces), braces == 0 || 2*braces+1 <= 10 && braces >= 1)
	}
	for text, want := range map[string]bool{
		"{-[]->}^9,": true, "{-[]->}^10,": false, "{-[]->}^9,9": true, "{-[]->}^9,10": false, "{-[]->}^10,10": false, "{-[]->}^0,9": true, "{-[]->}^0,10": false, "{-[]->}^0,0": false, "{-[]->}^8,7": false, "{-[]->}^1,0": false,
		"(abcdef)": true, "(x)(abcdefg)": false, "-[]->(?<99)": true, "-[]->(?<100)": false, "(:" + inBrackets("a", 39) + ")()": true, "(:" + inBrackets("a", 40) + ")()": false,
		"{-[:" + strings.Repeat("!", 11) + "a]->}+": true, "{-[:" + strings.Repeat("!", 12) + "a]->}+": false,
	} {
		reads(text, want)
	}
}

func TestParsePatOfOtherTexts(t *testing.T) {
	many := 1000000
	for _, text := range []string{
		"", " ", "{", "}", "|", "*", "+", "?", "^", ",", "1", "x", "{}", "{|}", "{}*", "{|}*", "{}{}", "}{", "()|()", "|()", "()|", "()}", "{()", "{()|", "{()|}", "{|()}", "{()||()}", "{()|()", "{()|()}}", "{{()|()}", "(x", "(x)}", "(x)|(y)",
		"()*", "-[]->*", "-[]->+", "-[]->?", "-[]->^1,2", "()?", "{-[]->}", "{{-[]->}}", "{{-[]->}}+", "{{-[]->}+}", "{(x)}", "{(x)-[]->}", "(x){-[]->}(y)", "{-[]->}**", "{-[]->}+*", "{-[]->}?+", "{-[]->}*?", "{-[]->}^1,2+", "{-[]->}+^1,2", "{-[]->|-[]->}+?",
		"{-[]->}^", "{-[]->}^,", "{-[]->}^1", "{-[]->}^,2", "{-[]->}^1,,2", "{-[]->}^1,2,", "{-[]->}^1,2,3", "{-[]->}^-1,2", "{-[]->}^0,-1", "{-[]->}^1,-1", "{-[]->}^+1,2", "{-[]->}^01,2", "{-[]->}^1,02", "{-[]->}^00,", "{-[]->}^1,2 ", "{-[]->}^ 1,2", "{-[]->}^1, 2", "{-[]->} ^1,2",
		"{-[]->}^*", "{-[]->}^1,*", "{-[]->}1,2", "{-[]->}^1.2", "{-[]->}^a,", "{-[]->}^^1,", "{-[]->}{1,2}", "{-[]->}x", "{-[]->}-", "{-[]->}^18446744073709551617,", "{-[]->}^1,18446744073709551617", "{-[]->}^1,9223372036854775808", "{-[]->}^1,18446744073709551615",
		"{-[]->}^0,0", "{-[]->}^3,2", "{(x)}*", "{{-[]->}*}*", "{{-[]->}?}+", "{()|-[]->}*", "{-[]->|{-[]->}*}?", "(x)-[x]->", "(e){-[e]->}*", "{-[e]->}*{-[e]->}*",
		"{{-[]->|-[]->}}", "{{-[]->|-[]->}|-[]->}", "{-[]->|{-[]->|-[]->}}", "{{{-[]->|-[]->}}}+", "{{-[]->|-[]->}}(x)", "{{-[]->|-[]->}}}+", "{{{-[]->|-[]->}}+", "{{-[]->|-[]->}-[]->|-[]->", "{{-[]->|-[]->}}++",
		"()-", "()<", "()->", "()<-", "(x)-[", "(x)-[]", "-[]->>", "<<-[]-", "<-[]->", "<-[]->()", "-[]-->", "()--()", "()-->()", "() ()", " ()", "() ", "()\n", "()\x00", "{ -[]->}+", "{-[]-> }+", "{-[]-> |-[]->}", "(x)-[e]->(y) !x~y", "(A)", "(x)(1)", "(x:)-[]->", "(x)-[?]->", "\xff", "()\x80", "é",
		"[]", "{[]}+", "((x))", "((x)(y))", "(-[]->)", "{(x)(y)}", "(x{-[]->}+", "{(x})+", "{-[}]->+", "{-[]->|(}|)}",
		strings.Repeat("{", many), strings.Repeat("}", many), strings.Repeat("()", many), strings.Repeat("{()|", many), strings.Repeat("|", many), "{" + strings.Repeat("()|", many) + "()}", strings.Repeat("{", many) + "-[]->" + strings.Repeat("}+", many), strings.Repeat("{-[]->}+", many),
		"{-[]->}^" + strings.Repeat("1", many) + ",", "{-[]->}^1," + strings.Repeat("9", many), "{-[]->}" + strings.Repeat("^", many), "{-[]->}" + strings.Repeat("+", many), strings.Repeat("(", many), strings.Repeat("-[", many), strings.Repeat("<", many), strings.Repeat("{|", many), strings.Repeat("{-[]->|{", many),
		"(:" + strings.Repeat("a|", many) + "a)", "{(" + strings.Repeat("x", many) + ")|()}",
	} {
		p, ok := impl.ParsePat(text)
		expectNoPat(t, "ParsePat of "+text, p, ok)
	}
}

// elemShape and timesShape match an element and the times of a repetition at
// the beginning of a text.
var (
	elemShape  = regexp.MustCompile(`^(\((?:[^()]|\((?:[^()]|\([^()]*\))*\))*\)|<?-\[[^\[\]]*\]->?)`)
	timesShape = regexp.MustCompile(`^(?:([*+?])|\^(0|[1-9][0-9]*),(0|[1-9][0-9]*)?)`)
)

// readPatPlainly reads a pattern by cutting its text into parts.
func readPatPlainly(text string) (impl.Pat, bool) {
	p, ok := readPatShape(text)
	if !ok || !plainPatValid(p) {
		return impl.Pat{}, false
	}
	return p, true
}

// readPatShape reads what may be an invalid pattern.
func readPatShape(text string) (impl.Pat, bool) {
	var parts []impl.Pat
	for text != "" {
		length := len(elemShape.FindString(text))
		if text[0] == '{' {
			length = bracesLength(text)
			length += len(timesShape.FindString(text[length:]))
		}
		if length == 0 {
			return impl.Pat{}, false
		}
		part, ok := readPartShape(text[:length])
		if !ok {
			return impl.Pat{}, false
		}
		parts, text = append(parts, part), text[length:]
	}
	if len(parts) == 1 {
		return parts[0], true
	}
	return seq(parts...), len(parts) > 0
}

// bracesLength returns the length of what is in the braces at the beginning of
// a text, or 0 if they are not closed.
func bracesLength(text string) int {
	open := 0
	for i := range len(text) {
		switch text[i] {
		case '{':
			open++
		case '}':
			open--
			if open == 0 {
				return i + 1
			}
		}
	}
	return 0
}

// readPartShape reads an element, a choice or a repetition.
func readPartShape(text string) (impl.Pat, bool) {
	if text[0] != '{' {
		e, ok := impl.ParseElem(text)
		return one(e), ok
	}
	length := bracesLength(text)
	if length == 0 {
		return impl.Pat{}, false
	}
	var kids []impl.Pat
	for _, piece := range cutAtBars(text[1 : length-1]) {
		kid, ok := readPatShape(piece)
		if !ok {
			return impl.Pat{}, false
		}
		kids = append(kids, kid)
	}
	part := kids[0]
	if len(kids) > 1 {
		part = alt(kids...)
	}
	found := timesShape.FindStringSubmatch(text[length:])
	if found == nil {
		return part, len(kids) > 1
	}
	lo, hi := 0, -1
	switch found[1] {
	case "":
		lo, _ = strconv.Atoi(found[2])
		if found[3] != "" {
			hi, _ = strconv.Atoi(found[3])
		}
	case "+":
		lo = 1
	case "?":
		hi = 1
	}
	return rep(part, lo, hi), true
}

// cutAtBars cuts a text at the bars outside of all brackets and braces.
func cutAtBars(text string) []string {
	var pieces []string
	open, start := 0, 0
	for i := range len(text) {
		switch text[i] {
		case '{', '(', '[':
			open++
		case '}', ')', ']':
			open--
		case '|':
			if open == 0 {
				pieces = append(pieces, text[start:i])
				start = i + 1
			}
		}
	}
	return append(pieces, text[start:])
}

// expectReading fails unless a text is read as readPatPlainly reads it, and
// reports whether there is such a pattern.
func expectReading(t *testing.T, text string) bool {
	t.Helper()
	want, wanted := readPatPlainly(text)
	p, ok := impl.ParsePat(text)
	if ok != wanted || !plainPatSame(p, want) {
		t.Fatalf("ParsePat(%q) = %v, %v, not %v, %v", text, p, ok, want, wanted)
	}
	return ok
}

// shortTexts returns all texts of between one and so many tokens.
func shortTexts(tokens []string, most int) []string {
	list := tokens
	last := tokens
	for range most - 1 {
		var longer []string
		for _, text := range last {
			for _, token := range tokens {
				longer = append(longer, text+token)
			}
		}
		list, last = slices.Concat(list, longer), longer
	}
	return list
}

// changedTexts returns all texts that differ from a text in one byte, which is
// another one, or is left out or put in.
func changedTexts(text string) []string {
	var list []string
	for i := range len(text) + 1 {
		rest := text[min(i+1, len(text)):]
		list = append(list, text[:i]+rest)
		for b := range 256 {
			put := string([]byte{byte(b)})
			list = append(list, text[:i]+put+text[i:], text[:i]+put+rest)
		}
	}
	return list
}

// Each short text is read as the document says, or not at all.
func TestParsePatOfAllShortTexts(t *testing.T) {
	for _, x := range []struct {
		front, behind string
		tokens        []string
		length, least int
	}{
		{"", "", []string{"(x)", "-[]->", "<-[x]-", "{", "|", "}", "*", "^1,", "2"}, 6, 400},
		{"{-[]->}", "", []string{"*", "+", "?", "^", ",", "0", "1", "2", "9", "-", "()", "}"}, 5, 40},
		{"{", "|-[]->}", []string{"{", "-[]->", "|", "}", "}+", "}^0,1", "(x)"}, 6, 300},
		{"{{-[]->|", "}+", []string{"-[e]->", "{", "|", "}", "}+", "}^2,", "()"}, 5, 100},
	} {
		count := 0
		for _, text := range shortTexts(x.tokens, x.length) {
			if expectReading(t, x.front+text+x.behind) {
				count++
			}
		}
		if count < x.least {
			t.Errorf("only %d texts with %q are those of patterns", count, x.front)
		}
	}
}

// A text that differs in one byte is that of another pattern, or of none.
func TestParsePatOfChangedTexts(t *testing.T) {
	for _, text := range []string{"(x:a|b){-[e:r?=9]->|<-[]-}^2,13(y)", "{{-[]->}+(n)-[]-|-[:r]->}?", "{{(x)-[]-|-[e]->}}*{-[]->}^1,1", "{(x:!(a|b))|()}-[]->{-[]->}^0,"} {
		count := 0
		for _, changed := range changedTexts(text) {
			if expectReading(t, changed) {
				count++
			}
		}
		if count == 0 {
			t.Errorf("no changed text of %s is that of a pattern", text)
		}
	}
}

// patsOfSize returns, for each number of nodes up to most, all patterns with so
// many of them and these leaves and times, valid or not.
func patsOfSize(most int, leaves []impl.Pat, pairs [][2]int) [][]impl.Pat {
	list := [][]impl.Pat{nil, leaves}
	for size := 2; size <= most; size++ {
		var found []impl.Pat
		for _, kid := range list[size-1] {
			for _, pair := range pairs {
				found = append(found, rep(kid, pair[0], pair[1]))
			}
		}
		for _, kids := range kidsOfSize(size-1, list) {
			found = append(found, seq(kids...), alt(kids...))
		}
		list = append(list, found)
	}
	return list
}

// kidsOfSize returns all lists of patterns of a list by size with so many nodes.
func kidsOfSize(size int, list [][]impl.Pat) [][]impl.Pat {
	if size == 0 {
		return [][]impl.Pat{nil}
	}
	var found [][]impl.Pat
	for first := 1; first <= size; first++ {
		for _, others := range kidsOfSize(size-first, list) {
			for _, p := range list[first] {
				found = append(found, append([]impl.Pat{p}, others...))
			}
		}
	}
	return found
}

// Promise 4: all small patterns are read back, and turned back; and they have
// the numbers of edges and the variables that the document says.
func TestAllSmallPats(t *testing.T) {
	left := one(impl.Elem{Var: "e", Dir: impl.DirLeft})
	texts := map[string]bool{}
	counts := map[bool]int{}
	for _, list := range append(patsOfSize(5, []impl.Pat{aNode, node("x"), edge("x"), left}, [][2]int{{0, -1}, {1, 2}, {2, 2}}), patsOfSize(6, []impl.Pat{node("x"), left}, [][2]int{{0, 1}, {1, -1}})...) {
		for _, p := range list {
			valid := plainPatValid(p)
			counts[valid]++
			if impl.PatValid(p) != valid {
				t.Fatalf("PatValid(%v) is not %v", p, valid)
			}
			checkEdges(t, p, valid)
			text := impl.FormatPat(p)
			turned, ok := impl.TurnPat(p)
			if !valid {
				if text != "" || ok || !zeroPat(turned) || len(impl.VarsOf(p, false))+len(impl.VarsOf(p, true)) != 0 {
					t.Fatalf("%v is not valid, and has the text %q or is turned", p, text)
				}
				continue
			}
			back, ok2 := impl.ParsePat(text)
			if !ok2 || !plainPatSame(back, p) {
				t.Fatalf("%v has the text %q and is read back as %v, %v", p, text, back, ok2)
			}
			again, ok3 := impl.TurnPat(turned)
			if !ok || !ok3 || !plainPatValid(turned) || !plainPatSame(again, p) || !plainPatSame(turned, plainTurned(p)) {
				t.Fatalf("TurnPat of %s = %s, %v", text, impl.FormatPat(turned), ok)
			}
			texts[text] = true
		}
	}
	if counts[true] < 1500 || counts[false] < 10000 || len(texts) < 1500 {
		t.Errorf("there are %v patterns, with %d texts", counts, len(texts))
	}
}

// checkEdges fails unless a small pattern has its numbers of edges.
func checkEdges(t *testing.T, p impl.Pat, valid bool) {
	t.Helper()
	least, ok := impl.LeastEdges(p)
	most, ok2 := impl.MostEdges(p)
	wantLeast, wantMost := 0, 0
	if valid {
		counts := edgeCounts(p)
		wantLeast = slices.Index(counts[:], true)
		for i, fits := range counts {
			if fits {
				wantMost = i
			}
		}
		if wantMost > manyEdges-10 {
			wantMost = -1
		}
	}
	if ok != valid || ok2 != valid || least != wantLeast || most != wantMost {
		t.Fatalf("%v has %d to %d edges, %v, %v, not %d to %d, %v", p, least, most, ok, ok2, wantLeast, wantMost, valid)
	}
}

// plainTurned returns a valid pattern turned, by the document.
func plainTurned(p impl.Pat) impl.Pat {
	turned := copiedPat(p)
	for i, kid := range p.Kids {
		if p.Op == impl.PatSeq {
			i = len(p.Kids) - 1 - i
		}
		turned.Kids[i] = plainTurned(kid)
	}
	switch p.Elem.Dir {
	case impl.DirRight:
		turned.Elem.Dir = impl.DirLeft
	case impl.DirLeft:
		turned.Elem.Dir = impl.DirRight
	}
	return turned
}

// expectEdges fails unless a valid pattern has these numbers of edges.
func expectEdges(t *testing.T, what string, p impl.Pat, wantLeast int, wantMost int) {
	t.Helper()
	least, ok := impl.LeastEdges(p)
	most, ok2 := impl.MostEdges(p)
	if !ok || !ok2 || least != wantLeast || most != wantMost {
		t.Errorf("%s has %d to %d edges, %v, %v, not %d to %d", what, least, most, ok, ok2, wantLeast, wantMost)
	}
}

func TestLeastEdgesAndMostEdges(t *testing.T) {
	for text, want := range map[string][2]int{
		"()": {0, 0}, "(x)": {0, 0}, "-[]->": {1, 1}, "<-[e]-": {1, 1}, "-[:r?<5]-": {1, 1}, "()()": {0, 0}, "(x)-[]->(y)": {1, 1}, "-[]->-[]-(x)<-[]-": {3, 3},
		"{()|-[]->}": {0, 1}, "{-[]->|-[]->-[]->}": {1, 2}, "{-[]->-[]->-[]->|()|-[]->}": {0, 3}, "{-[]->-[]->|-[]->-[]->}{-[]->|()-[]->-[]->-[]->}": {3, 5},
		"{-[]->}*": {0, -1}, "{-[]->}+": {1, -1}, "{-[]->}?": {0, 1}, "{-[]->}^4,": {4, -1}, "{-[]->}^0,": {0, -1}, "{-[]->}^1,1": {1, 1}, "{-[]->}^3,7": {3, 7}, "{-[]->}^0,9": {0, 9}, "{-[]->}^9,9": {9, 9},
		"(x){-[]->}*(y)": {0, -1}, "{-[]->(n)-[]->}^2,3": {4, 6}, "{{-[]->}^1,2}^2,": {2, -1}, "{{-[]->}^2,}^2,3": {4, -1}, "{{-[]->}^2,3}^0,4": {0, 12}, "{-[]->|-[]->-[]->}^2,5": {2, 10}, "{-[]->|{-[]->}+}^1,2": {1, -1},
		"{{-[]->}*|-[]->-[]->}": {0, -1}, "{-[]->-[]->|{-[]->}^3,4}": {2, 4}, "{-[]->}?{-[]->}?-[]->": {1, 3}, "{-[]->}^2,2{-[]->}^3,": {5, -1}, "{{{-[]->}^2,3}^2,3}^2,3": {8, 27}, "{-[]->}^5,9{-[]->|()}": {5, 10},
	} {
		expectEdges(t, text, patOf(t, text), want[0], want[1])
	}
	for what, p := range brokenPats() {
		least, ok := impl.LeastEdges(p)
		most, ok2 := impl.MostEdges(p)
		if ok || ok2 || least != 0 || most != 0 {
			t.Errorf("%.80s has %d to %d edges, %v, %v", what, least, most, ok, ok2)
		}
	}
}

// A number of edges that would be greater than MaxSum is MaxSum.
func TestEdgesUpToMaxSum(t *testing.T) {
	for i, want := range []int{1, 9, 81, 729, 6561, 59049, 531441, 1000000, 1000000, 1000000} {
		nines := slices.Repeat([]int{9}, i)
		expectEdges(t, "a pattern repeated by 9, "+number(i)+" times", times(anEdge, nines...), want, want)
	}
	below := []impl.Pat{times(anEdge, 7), times(anEdge, 5, 5, 6, 7, 7, 8), times(anEdge, 7, 7, 7, 7, 7, 7, 8)}
	exact := times(anEdge, 5, 5, 5, 5, 5, 5, 8, 8)
	above := times(anEdge, 9, 9, 9, 9, 9, 9, 9)
	half := times(anEdge, 8, 5, 5, 5, 5, 5, 5, 4)
	expectEdges(t, "999999 edges", seq(below...), 999999, 999999)
	expectEdges(t, "999999 edges and one", seq(append(below, anEdge)...), 1000000, 1000000)
	expectEdges(t, "999999 edges and two", seq(append(below, anEdge, anEdge)...), 1000000, 1000000)
	expectEdges(t, "1000000 edges", exact, 1000000, 1000000)
	expectEdges(t, "one edge and 1000000", seq(anEdge, exact), 1000000, 1000000)
	expectEdges(t, "1000000 edges, twice", seq(exact, exact), 1000000, 1000000)
	expectEdges(t, "500000 edges, twice", seq(half, aNode, half), 1000000, 1000000)
	expectEdges(t, "500000 edges, repeated twice", times(anEdge, 2, 8, 5, 5, 5, 5, 5, 5, 4), 1000000, 1000000)
	expectEdges(t, "500000 edges, repeated 3 times", times(anEdge, 3, 8, 5, 5, 5, 5, 5, 5, 4), 1000000, 1000000)
	expectEdges(t, "1000000 edges or one", alt(exact, anEdge), 1, 1000000)
	expectEdges(t, "1000000 edges or more", alt(above, seq(above, anEdge)), 1000000, 1000000)
	expectEdges(t, "999999 edges or one", alt(seq(below...), anEdge), 1, 999999)
	expectEdges(t, "1000000 edges, or none", rep(exact, 0, 9), 0, 1000000)
	expectEdges(t, "1000000 edges, or none, and one", seq(rep(above, 0, 1), anEdge), 1, 1000000)
	expectEdges(t, "1000000 edges without a limit", rep(exact, 2, -1), 1000000, -1)
	expectEdges(t, "1000000 edges and a repetition without a limit", seq(exact, rep(anEdge, 0, -1)), 1000000, -1)
	wide := anEdge
	for range 9 {
		wide = rep(wide, 2, 9)
	}
	expectEdges(t, "512 edges or more", wide, 512, 1000000)
}

func TestVarsOf(t *testing.T) {
	for text, want := range map[string][2]string{
		"()": {"", ""}, "-[]->": {"", ""}, "(x)": {"x", ""}, "<-[e]-": {"e", ""}, "(x)-[e]->(y)": {"x e y", ""}, "(y)-[e]->(x)": {"y e x", ""}, "(x)(x)": {"x", ""}, "(x)-[]->(y)(x)(y)": {"x y", ""},
		"{-[e]->}*": {"", "e"}, "{-[e]->(n)|<-[f]-(n)(m)}+": {"", "e n f m"}, "(x:a){-[e]->(n)}*(y)-[f]->(x)": {"x y f", "e n"}, "{(b)|(a)-[e]->|(b)(c)}(a)": {"b a e c", ""},
		"{{-[e]->}+(n)-[f]->}+(x)": {"x", "e n f"}, "{{{-[g]->}+}+}+{-[f]->(n)(n)}?": {"", "g f n"}, "{-[f]->}+{-[e]->}+": {"", "f e"}, "{{-[e]->}*|(x)-[f]->}": {"x f", "e"}, "(x){-[]->()}*(y)": {"x y", ""},
		"(z)(y){-[abcdef]->}^1,1(x)(a)": {"z y x a", "abcdef"}, "(:x)-[:y?<5]->": {"", ""}, "{-[e]->}^0,1(x){-[f]->}^2,(y)": {"x y", "e f"},
	} {
		for i, within := range []bool{false, true} {
			if got := impl.VarsOf(patOf(t, text), within); strings.Join(got, " ") != want[i] || slices.Contains(got, "") {
				t.Errorf("VarsOf of %s for %v = %q", text, within, got)
			}
		}
	}
	for what, p := range brokenPats() {
		if len(impl.VarsOf(p, false)) != 0 || len(impl.VarsOf(p, true)) != 0 {
			t.Errorf("VarsOf of %.80s is not empty", what)
		}
	}
	var nodes []impl.Pat
	for i := range 23 {
		nodes = append(nodes, node(string([]byte{byte('z' - i)})))
	}
	if got := impl.VarsOf(seq(nodes...), false); strings.Join(got, "") != "zyxwvutsrqponmlkjihgfed" {
		t.Errorf("VarsOf of 23 variables = %q", got)
	}
}

func TestTurnPat(t *testing.T) {
	for text, want := range map[string]string{
		"()": "()", "(x:a?<5)": "(x:a?<5)", "-[e:r]->": "<-[e:r]-", "<-[]-": "-[]->", "-[e]-": "-[e]-", "(x)-[e]->(y:b)": "(y:b)<-[e]-(x)", "(x)(y)-[]-": "-[]-(y)(x)",
		"(x:a){-[e]->(n)}*(y)-[f]->(x)": "(x)<-[f]-(y){(n)<-[e]-}*(x:a)", "{(x)-[]->|(x)<-[]-}(y)": "(y){<-[]-(x)|-[]->(x)}", "{-[:a|b]->|-[:r]->}?": "{<-[:a|b]-|<-[:r]-}?",
		"{(a)|(b)|-[]->}": "{(a)|(b)|<-[]-}", "{-[]->}^2,3": "{<-[]-}^2,3", "{{-[e]->}+(n)|<-[f]-}^1,1(x)": "(x){(n){<-[e]-}+|-[f]->}^1,1", "{-[]->}*{<-[]-}+{-[]-}?": "{-[]-}?{-[]->}+{<-[]-}*", "(x){-[]->|()-[]->(y)}(z)": "(z){<-[]-|(y)<-[]-()}(x)",
	} {
		turned, ok := impl.TurnPat(patOf(t, text))
		if s := impl.FormatPat(turned); !ok || s != want {
			t.Errorf("TurnPat of %s = %q, %v, not %q", text, s, ok, want)
		}
		turned, ok = impl.TurnPat(patOf(t, want))
		if s := impl.FormatPat(turned); !ok || s != text {
			t.Errorf("TurnPat of %s = %q, %v, not %q", want, s, ok, text)
		}
	}
	for what, p := range brokenPats() {
		turned, ok := impl.TurnPat(p)
		expectNoPat(t, "TurnPat of "+what, turned, ok)
	}
}

// Promise 4: a turned pattern is valid, has as many edges and the same
// variables, and turned again it is the pattern.
func TestPatsAreTurned(t *testing.T) {
	list := append(patsWithTexts(), textedPat{"10 nodes on a way", patDeep(10, anEdge, inRep, inSeq, inAlt)}, textedPat{"24 nodes", seq(slices.Repeat([]impl.Pat{anEdge}, 23)...)})
	for _, x := range list {
		turned, ok := impl.TurnPat(x.p)
		again, ok2 := impl.TurnPat(turned)
		if !ok || !ok2 || !impl.PatValid(turned) || !plainPatSame(turned, plainTurned(x.p)) || !plainPatSame(again, x.p) {
			t.Errorf("TurnPat of %s = %v, %v", x.text, turned, ok)
		}
		least, _ := impl.LeastEdges(x.p)
		most, _ := impl.MostEdges(x.p)
		expectEdges(t, "the turned "+x.text, turned, least, most)
		for _, within := range []bool{false, true} {
			vars, others := impl.VarsOf(x.p, within), impl.VarsOf(turned, within)
			slices.Sort(vars)
			slices.Sort(others)
			if !slices.Equal(vars, others) {
				t.Errorf("the variables of the turned %s are %q, not %q", x.text, others, vars)
			}
		}
	}
}

// wipePat writes over a pattern, and over the memory behind it.
func wipePat(p impl.Pat) {
	wipeElem(p.Elem)
	kids := p.Kids[:cap(p.Kids)]
	for i := range kids {
		wipePat(kids[i])
		kids[i] = impl.Pat{Op: -1, Lo: -5}
	}
}

func TestPatsShareNoMemory(t *testing.T) {
	for _, x := range patsWithTexts() {
		p := copiedPat(x.p)
		first, ok := impl.TurnPat(p)
		second, ok2 := impl.TurnPat(p)
		if !ok || !ok2 || !plainPatSame(p, x.p) {
			t.Errorf("TurnPat changes %s", x.text)
		}
		wipePat(first)
		if !plainPatSame(second, plainTurned(x.p)) || !plainPatSame(p, x.p) {
			t.Errorf("TurnPat of %s shares memory with its argument or another result", x.text)
		}
		wipePat(p)
		if !plainPatSame(second, plainTurned(x.p)) {
			t.Errorf("TurnPat of %s is in the memory of its argument", x.text)
		}
		first, second = patOf(t, x.text), patOf(t, x.text)
		wipePat(first)
		if !plainPatSame(second, x.p) {
			t.Errorf("ParsePat(%q) shares memory with another result", x.text)
		}
	}
}

// Equal parts of a result are not in the same memory, nor in that behind the
// parts of the argument, which can be there even where it has none of them.
func TestPatsShareNoMemoryWithin(t *testing.T) {
	part := seq(one(impl.Elem{Dir: impl.DirAny, Labels: not(atom("a")), Cond: not(atom("<5"))}), aNode)
	turned, ok := impl.TurnPat(alt(part, part))
	wipePat(turned.Kids[0])
	if !ok || !plainPatSame(turned.Kids[1], plainTurned(part)) {
		t.Errorf("parts of the result of TurnPat share memory: %v", turned)
	}
	read := patOf(t, "{(:!a)()|(:!a)()}")
	wipePat(read.Kids[0])
	if impl.FormatPat(read.Kids[1]) != "(:!a)()" {
		t.Errorf("parts of the result of ParsePat share memory: %v", read)
	}
	behind := []impl.Pat{node("mark")}
	leaf := impl.Pat{Op: impl.PatElem, Elem: anEdge.Elem, Kids: behind[:0]}
	for _, p := range []impl.Pat{leaf, seq(leaf, leaf), rep(leaf, 1, 1)} {
		turned, ok := impl.TurnPat(p)
		wipePat(turned)
		if !ok || !plainPatSame(behind[0], node("mark")) {
			t.Errorf("TurnPat(%v) = %v, with memory of its argument", p, ok)
		}
	}
}

func TestReadingLeavesPatsAlone(t *testing.T) {
	for _, x := range patsWithTexts() {
		// Behind the parts is more memory, with a mark, so that writing to it is seen.
		p := copiedPat(x.p)
		p.Kids = append(append([]impl.Pat{}, p.Kids...), node("mark"))[:len(p.Kids)]
		impl.PatValid(p)
		impl.PatSame(p, p)
		impl.FormatPat(p)
		impl.LeastEdges(p)
		impl.MostEdges(p)
		impl.TurnPat(p)
		for _, within := range []bool{false, true} {
			vars := impl.VarsOf(p, within)
			want := slices.Clone(vars)
			for i := range vars {
				vars[i] = "wiped"
			}
			if !slices.Equal(impl.VarsOf(p, within), want) {
				t.Errorf("VarsOf of %s shares memory with another result", x.text)
			}
		}
		if !plainPatSame(p, x.p) || !plainPatSame(p.Kids[:len(p.Kids)+1][len(p.Kids)], node("mark")) {
			t.Errorf("a function that reads %s changes it", x.text)
		}
	}
}
