package tests

import (
	"math/rand"
	"slices"
	"strconv"
	"strings"
	"testing"

	"loop.example/graphpatterns/impl"
)

// autoText returns an automaton as a text: the number of its states, and for
// each arc From, `>`, To, and the text of its element, if it is not free.
func autoText(a impl.Auto) string {
	text := strconv.Itoa(a.States)
	for _, arc := range a.Arcs {
		text += " " + strconv.Itoa(arc.From) + ">" + strconv.Itoa(arc.To) + impl.FormatElem(arc.Elem)
	}
	return text
}

// autoFrom returns the automaton with such a text.
func autoFrom(t *testing.T, text string) impl.Auto {
	t.Helper()
	var a impl.Auto
	for i, part := range strings.Fields(text) {
		if i == 0 {
			a.States, _ = strconv.Atoi(part)
			continue
		}
		from, rest, _ := strings.Cut(part, ">")
		digits := len(rest) - len(strings.TrimLeft(rest, "0123456789"))
		arc := impl.Arc{Free: digits == len(rest)}
		arc.From, _ = strconv.Atoi(from)
		arc.To, _ = strconv.Atoi(rest[:digits])
		if !arc.Free {
			arc.Elem = elemOf(t, rest[digits:])
		}
		a.Arcs = append(a.Arcs, arc)
	}
	return a
}

func free(from int, to int) impl.Arc { return impl.Arc{From: from, To: to, Free: true} }

func along(from int, to int, e impl.Elem) impl.Arc { return impl.Arc{From: from, To: to, Elem: e} }

// looseAuto returns an automaton with so many states and arcs, which accepts all
// walks, if there is an arc.
func looseAuto(states int, arcs int) impl.Auto {
	a := impl.Auto{States: states, Arcs: slices.Repeat([]impl.Arc{along(1, 1, impl.Elem{Dir: impl.DirAny})}, arcs)}
	if arcs > 0 {
		a.Arcs[0] = free(0, 1)
	}
	return a
}

// brokenAutos returns automata that break one rule each, and would accept walks
// without the arc that does so.
func brokenAutos() map[string]impl.Auto {
	list := map[string]impl.Auto{"the zero value": {}, "201 arcs": looseAuto(60, 201), "many arcs": looseAuto(3, 100000)}
	for _, states := range []int{-1 << 63, -60, -2, -1, 0, 1, 61, 62, 200, 1 << 40, 1<<63 - 1} {
		list[strconv.Itoa(states)+" states"] = looseAuto(states, 3)
		list[strconv.Itoa(states)+" states without arcs"] = looseAuto(states, 0)
		list[strconv.Itoa(states)+" states and no arc between others"] = impl.Auto{States: states, Arcs: []impl.Arc{free(0, 0)}}
	}
	put := func(what string, arc impl.Arc) {
		for _, states := range []int{3, 60} {
			a := looseAuto(states, 3)
			list[what+" first of "+strconv.Itoa(states)] = impl.Auto{States: states, Arcs: append([]impl.Arc{arc}, a.Arcs...)}
			list[what+" last of "+strconv.Itoa(states)] = impl.Auto{States: states, Arcs: append(a.Arcs, arc)}
		}
	}
	for _, state := range []int{-1 << 63, -60, -1, 60, 61, 1 << 40, 1<<63 - 1} {
		put("an arc from "+strconv.Itoa(state), free(state, 1))
		put("an arc to "+strconv.Itoa(state), free(0, state))
		put("an edge from "+strconv.Itoa(state), along(state, 1, anEdge.Elem))
		put("a node to "+strconv.Itoa(state), along(0, state, aNode.Elem))
	}
	for what, e := range brokenElems() {
		put(what, along(0, 1, e))
		if !zeroElem(e) {
			put(what+", freely", impl.Arc{From: 0, To: 1, Free: true, Elem: e})
		}
	}
	for what, e := range map[string]impl.Elem{"a node": aNode.Elem, "an edge": anEdge.Elem, "labels": {Node: true, Labels: anything}, "Dir": {Dir: impl.DirAny}, "labels alone": {Labels: anything}, "a condition alone": {Cond: anything}, "a variable alone": {Var: "x"}} {
		put(what+", freely", impl.Arc{From: 0, To: 1, Free: true, Elem: e})
		e.Var = "x"
		put(what+" with a variable", along(0, 1, e))
	}
	return list
}

// The plain functions are written without chapter 8, by the document, for
// testing it.

func plainArcSame(a impl.Arc, b impl.Arc) bool {
	return a.From == b.From && a.To == b.To && a.Free == b.Free && plainElemSame(a.Elem, b.Elem)
}

func plainAutoSame(a impl.Auto, b impl.Auto) bool {
	return a.States == b.States && slices.EqualFunc(a.Arcs, b.Arcs, plainArcSame)
}

// expectNoAuto fails unless a is the zero value, and ok is false.
func expectNoAuto(t *testing.T, what string, a impl.Auto, ok bool) {
	t.Helper()
	if ok || a.States != 0 || len(a.Arcs) != 0 {
		t.Errorf("%.80s = %.200s, %v", what, autoText(a), ok)
	}
}

// plainAuto returns the automaton of a small pattern, valid or not.
func plainAuto(p impl.Pat) impl.Auto {
	arcs, next := plainArcs(p, 0, 1, 2)
	return impl.Auto{States: next, Arcs: arcs}
}

// plainArcs returns the arcs of a pattern between two states, if new states have
// numbers from next, and the number that the next new state gets behind it.
func plainArcs(p impl.Pat, from int, to int, next int) ([]impl.Arc, int) {
	var arcs []impl.Arc
	add := func(p impl.Pat, from int, to int) {
		var made []impl.Arc
		made, next = plainArcs(p, from, to, next)
		arcs = append(arcs, made...)
	}
	switch p.Op {
	case impl.PatElem:
		e := p.Elem
		e.Var = ""
		return []impl.Arc{along(from, to, e)}, next
	case impl.PatAlt:
		for _, kid := range p.Kids {
			add(kid, from, to)
		}
		return arcs, next
	case impl.PatSeq:
		if len(p.Kids) == 1 {
			return plainArcs(p.Kids[0], from, to, next)
		}
		between := next
		next++
		add(p.Kids[0], from, between)
		add(seq(p.Kids[1:]...), between, to)
		return arcs, next
	}
	made := next
	next++
	arcs = append(arcs, free(from, made))
	for n := 0; ; n++ {
		if n >= p.Lo {
			arcs = append(arcs, free(made, to))
		}
		if n == p.Hi || p.Hi == -1 && n == p.Lo {
			break
		}
		former := made
		made = next
		next++
		add(p.Kids[0], former, made)
	}
	if p.Hi == -1 {
		add(p.Kids[0], made, made)
	}
	return arcs, next
}

// plainAccepts reports whether a valid automaton accepts a valid walk: it goes
// along all arcs at all places of the walk, as long as this leads further.
func plainAccepts(g impl.Graph, a impl.Auto, w impl.Walk) bool {
	reached := map[[2]int]bool{{0, 0}: true}
	for count := 0; count < len(reached); {
		count = len(reached)
		for _, arc := range a.Arcs {
			for i, node := range w.Nodes {
				if !reached[[2]int{arc.From, i}] {
					continue
				}
				if arc.Free || arc.Elem.Node && plainFits(g.Nodes[node].Label, g.Nodes[node].Num, arc.Elem) {
					reached[[2]int{arc.To, i}] = true
				}
				if !arc.Free && i < len(w.Edges) && slices.Contains(plainHops(g, node, arc.Elem), impl.Hop{Edge: w.Edges[i], To: w.Nodes[i+1]}) {
					reached[[2]int{arc.To, i + 1}] = true
				}
			}
		}
	}
	return reached[[2]int{1, len(w.Edges)}]
}

// costs has, for each pair of places, the fewest edges between them, or far.
type costs [][]int

const far = 1 << 30

func newCosts(size int) costs {
	c := costs{}
	for range size {
		c = append(c, slices.Repeat([]int{far}, size))
	}
	return c
}

// graphCosts returns the costs of an element between the nodes of a graph.
func graphCosts(g impl.Graph, e impl.Elem) costs {
	c := newCosts(len(g.Nodes))
	for i, n := range g.Nodes {
		if e.Node && plainFits(n.Label, n.Num, e) {
			c[i][i] = 0
		}
		for _, hop := range plainHops(g, i, e) {
			c[i][hop.To] = 1
		}
	}
	return c
}

// walkCosts returns the costs of an element between the places of a walk.
func walkCosts(g impl.Graph, w impl.Walk, e impl.Elem) costs {
	c := newCosts(len(w.Nodes))
	for i, node := range w.Nodes {
		if e.Node && plainFits(g.Nodes[node].Label, g.Nodes[node].Num, e) {
			c[i][i] = 0
		}
		if i < len(w.Edges) && slices.Contains(plainHops(g, node, e), impl.Hop{Edge: w.Edges[i], To: w.Nodes[i+1]}) {
			c[i][i+1] = 1
		}
	}
	return c
}

// leastOf returns the lesser ones of two lists of costs.
func leastOf(a costs, b costs) costs {
	c := newCosts(len(a))
	for i := range a {
		for j := range a {
			c[i][j] = min(a[i][j], b[i][j])
		}
	}
	return c
}

// behind returns the costs of going from one place to another one by a and then
// by b.
func behind(a costs, b costs) costs {
	c := newCosts(len(a))
	for i := range a {
		for k := range a {
			if a[i][k] == far {
				continue
			}
			for j := range a {
				c[i][j] = min(c[i][j], a[i][k]+b[k][j])
			}
		}
	}
	return c
}

// patCosts returns the costs of a valid pattern between so many places, given
// those of an element, by what the document says of matches, but of any length.
// A repetition that takes more times than it has to, and than there are places,
// comes to one of them again, so that more times are not needed.
func patCosts(p impl.Pat, size int, elemCosts func(impl.Elem) costs) costs {
	if p.Op == impl.PatElem {
		return elemCosts(p.Elem)
	}
	var parts []costs
	for _, kid := range p.Kids {
		parts = append(parts, patCosts(kid, size, elemCosts))
	}
	found, last := newCosts(size), p.Hi
	if p.Op == impl.PatAlt {
		for _, part := range parts {
			found = leastOf(found, part)
		}
		return found
	}
	so := newCosts(size)
	for i := range so {
		so[i][i] = 0
	}
	if p.Op == impl.PatSeq {
		for _, part := range parts {
			so = behind(so, part)
		}
		return so
	}
	if last == -1 {
		last = p.Lo + size
	}
	for n := 0; n <= last; n++ {
		if n >= p.Lo {
			found = leastOf(found, so)
		}
		so = behind(so, parts[0])
	}
	return found
}

// plainEnds returns the costs of a valid pattern between the nodes of a graph.
func plainEnds(g impl.Graph, p impl.Pat) costs {
	return patCosts(p, len(g.Nodes), func(e impl.Elem) costs { return graphCosts(g, e) })
}

// plainFitsWalk reports whether a valid walk of any length fits a valid pattern
// without variables.
func plainFitsWalk(g impl.Graph, p impl.Pat, w impl.Walk) bool {
	c := patCosts(p, len(w.Nodes), func(e impl.Elem) costs { return walkCosts(g, w, e) })
	return c[0][len(w.Edges)] < far
}

// autoCosts returns the costs of a valid automaton between the nodes of a graph:
// the fewest edges from the start to each state at each node, made less as long
// as this can be done.
func autoCosts(g impl.Graph, a impl.Auto) costs {
	c := newCosts(len(g.Nodes))
	for from := range g.Nodes {
		least := map[[2]int]int{{0, from}: 0}
		for changed := true; changed; {
			changed = false
			reach := func(state int, node int, edges int) {
				if former, ok := least[[2]int{state, node}]; !ok || edges < former {
					least[[2]int{state, node}], changed = edges, true
				}
			}
			for _, arc := range a.Arcs {
				for node, n := range g.Nodes {
					edges, ok := least[[2]int{arc.From, node}]
					if !ok {
						continue
					}
					if arc.Free || arc.Elem.Node && plainFits(n.Label, n.Num, arc.Elem) {
						reach(arc.To, node, edges)
					} else if !arc.Elem.Node {
						for _, hop := range plainHops(g, node, arc.Elem) {
							reach(arc.To, hop.To, edges+1)
						}
					}
				}
			}
		}
		for to := range g.Nodes {
			if edges, ok := least[[2]int{1, to}]; ok {
				c[from][to] = edges
			}
		}
	}
	return c
}

// checkEnds fails unless AutoEnds and AutoFewest say what these costs do.
func checkEnds(t *testing.T, what string, g impl.Graph, a impl.Auto, c costs) {
	t.Helper()
	var want [][]int
	for from, row := range c {
		for to, edges := range row {
			if edges < far {
				want = append(want, []int{from, to})
			}
			if got, ok := impl.AutoFewest(g, a, from, to); ok != (edges < far) || ok && got != edges || !ok && got != 0 {
				t.Errorf("AutoFewest of %s in %s from %d to %d = %d, %v, not %d", what, impl.FormatGraph(g), from, to, got, ok, edges)
			}
		}
	}
	ends, ok := impl.AutoEnds(g, a)
	if !ok || !slices.EqualFunc(ends, want, slices.Equal[[]int]) {
		t.Errorf("AutoEnds of %s in %s = %v, %v, not %v", what, impl.FormatGraph(g), ends, ok, want)
	}
}

// expectFit fails unless AutoFits says so of an automaton and of it turned.
func expectFit(t *testing.T, what string, g impl.Graph, a impl.Auto, w impl.Walk, want bool) {
	t.Helper()
	if got := impl.AutoFits(g, a, w); got != want {
		t.Errorf("AutoFits of %s and %s in %s = %v", what, plainText(w), impl.FormatGraph(g), got)
	}
	turned, ok := impl.TurnAuto(a)
	if got := impl.AutoFits(g, turned, plainTurnedWalk(w)); !ok || got != want {
		t.Errorf("AutoFits of %s and %s in %s, both turned, = %v", what, plainText(w), impl.FormatGraph(g), got)
	}
}

// autoOf returns the automaton of a pattern that must have one.
func autoOf(t *testing.T, text string) impl.Auto {
	t.Helper()
	a, ok := impl.AutoOf(patOf(t, text))
	if !ok || !impl.AutoValid(a) {
		t.Fatalf("AutoOf(%s) = %v, %v", text, a, ok)
	}
	return a
}

// ring returns a graph with so many nodes, and edges that lead around them.
func ring(nodes int) impl.Graph {
	g := impl.Graph{Nodes: make([]impl.Node, nodes)}
	for i := range nodes {
		g.Edges = append(g.Edges, impl.Edge{From: i, To: (i + 1) % nodes})
	}
	return g
}

func TestAutoOf(t *testing.T) {
	for text, want := range map[string]string{
		// Elements, which lose their variables and nothing else.
		"()": "2 0>1()", "(x)": "2 0>1()", "(x:a|b?<5)": "2 0>1(:a|b?<5)", "-[]->": "2 0>1-[]->", "<-[e:!r]-": "2 0>1<-[:!r]-", "-[e?>3]-": "2 0>1-[?>3]-",
		// Sequences and choices.
		"()()": "3 0>2() 2>1()", "(x)-[e]->(y:b)": "4 0>2() 2>3-[]-> 3>1(:b)", "-[e]->-[e]-><-[]-(x)": "5 0>2-[]-> 2>3-[]-> 3>4<-[]- 4>1()",
		"{()|()}": "2 0>1() 0>1()", "{(x)|-[e]->|<-[]-}": "2 0>1() 0>1-[]-> 0>1<-[]-", "{(:a)-[]->|-[]-}": "3 0>2(:a) 2>1-[]-> 0>1-[]-", "{-[]-|(:a)-[]->|()}": "3 0>1-[]- 0>2(:a) 2>1-[]-> 0>1()",
		"{-[]->-[:r]->|<-[]-(:a)}(:b)": "5 0>3-[]-> 3>2-[:r]-> 0>4<-[]- 4>2(:a) 2>1(:b)", "(:b){-[]->|<-[]-(:a)}": "4 0>2(:b) 2>1-[]-> 2>3<-[]- 3>1(:a)",
		// Repetitions: from no times on, from more, up to some, and without a limit.
		"{-[:r]->}+": "4 0>2 2>3-[:r]-> 3>1 3>3-[:r]->", "{-[:r]->}*": "3 0>2 2>1 2>2-[:r]->", "{-[e]->}?": "4 0>2 2>1 2>3-[]-> 3>1", "{-[]->}^0,2": "5 0>2 2>1 2>3-[]-> 3>1 3>4-[]-> 4>1",
		"{-[]->}^1,1": "4 0>2 2>3-[]-> 3>1", "{-[]->}^2,3": "6 0>2 2>3-[]-> 3>4-[]-> 4>1 4>5-[]-> 5>1", "{-[]->}^2,2": "5 0>2 2>3-[]-> 3>4-[]-> 4>1", "{-[]->}^2,": "5 0>2 2>3-[]-> 3>4-[]-> 4>1 4>4-[]->",
		"{-[e]->(n)}^1,2": "7 0>2 2>4-[]-> 4>3() 3>1 3>6-[]-> 6>5() 5>1", "{-[]->(:a)}*": "4 0>2 2>1 2>3-[]-> 3>2(:a)", "{-[]->|<-[]-(:a)}+": "6 0>2 2>3-[]-> 2>4<-[]- 4>3(:a) 3>1 3>3-[]-> 3>5<-[]- 5>3(:a)",
		// Repetitions within others.
		"{{-[]->}+}^2,2": "9 0>2 2>4 4>5-[]-> 5>3 5>5-[]-> 3>7 7>8-[]-> 8>6 8>8-[]-> 6>1", "{{-[]->}^1,2}*": "6 0>2 2>1 2>3 3>4-[]-> 4>2 4>5-[]-> 5>2", "{{-[]->}+}+": "8 0>2 2>4 4>5-[]-> 5>3 5>5-[]-> 3>1 3>6 6>7-[]-> 7>3 7>7-[]->",
		"(x){-[e]->}?(y)": "6 0>2() 2>4 4>3 4>5-[]-> 5>3 3>1()", "{-[]->|{<-[]-}*}": "3 0>1-[]-> 0>2 2>1 2>2<-[]-", "{-[]->}*{<-[]-}*": "5 0>3 3>2 3>3-[]-> 2>4 4>1 4>4<-[]-", "{{-[]->}*-[:r]->(x)}?": "7 0>2 2>1 2>5 5>4 5>5-[]-> 4>6-[:r]-> 6>3() 3>1",
	} {
		a, ok := impl.AutoOf(patOf(t, text))
		if !ok || autoText(a) != want || !plainAutoSame(a, autoFrom(t, want)) {
			t.Errorf("AutoOf(%s) = %s, %v, not %s", text, autoText(a), ok, want)
		}
	}
}

// autoPats returns patterns of all kinds, small ones and larger ones.
func autoPats() []impl.Pat {
	labelled, left := one(impl.Elem{Node: true, Labels: atom("a")}), one(impl.Elem{Dir: impl.DirLeft, Cond: atom("<4")})
	list := slices.Concat(patsOfSize(4, []impl.Pat{aNode, labelled, anEdge, edge("e")}, [][2]int{{0, -1}, {1, -1}, {0, 2}, {2, 2}})...)
	list = slices.DeleteFunc(list, func(p impl.Pat) bool { return !plainPatValid(p) })
	for _, x := range patsWithTexts() {
		list = append(list, x.p)
	}
	many := manyPats(2000, []impl.Pat{aNode, node("x"), labelled, anEdge, anEdge, left, edge("e"), one(impl.Elem{Dir: impl.DirAny, Labels: not(atom("r"))})})
	for i, p := range many {
		if more := rep(p, 1+i%7, []int{-1, 7, 8, 9}[i%4]); plainPatValid(more) {
			list = append(list, more)
		}
	}
	return append(list, many...)
}

// The automaton of each pattern is the one that the document says, or there is
// none if that is not valid.
func TestAutoOfManyPats(t *testing.T) {
	count, great := 0, 0
	for _, p := range autoPats() {
		want := plainAuto(p)
		a, ok := impl.AutoOf(p)
		count++
		if want.States > 60 || len(want.Arcs) > 200 {
			great++
			expectNoAuto(t, "AutoOf of "+impl.FormatPat(p), a, ok)
			continue
		}
		if !ok || !plainAutoSame(a, want) || !impl.AutoValid(a) {
			t.Fatalf("AutoOf(%s) = %s, %v, not %s", impl.FormatPat(p), autoText(a), ok, autoText(want))
		}
		if stripped, ok := impl.AutoOf(plainStripped(p)); !ok || !plainAutoSame(stripped, a) {
			t.Errorf("AutoOf(%s) without variables = %s, %v", impl.FormatPat(p), autoText(stripped), ok)
		}
	}
	if count < 3000 || great < 100 || great > count/4 {
		t.Errorf("of %d patterns, %d are too great", count, great)
	}
}

func TestAutoOfInvalidPats(t *testing.T) {
	for what, p := range brokenPats() {
		a, ok := impl.AutoOf(p)
		expectNoAuto(t, "AutoOf of "+what, a, ok)
	}
}

// expectSize fails unless the automaton of a pattern has so many states and
// arcs, and is there only if these are few enough.
func expectSize(t *testing.T, p impl.Pat, states int, arcs int) {
	t.Helper()
	text := impl.FormatPat(p)
	a, ok := impl.AutoOf(p)
	if states > 60 || arcs > 200 {
		expectNoAuto(t, "AutoOf of "+text, a, ok)
	} else if !ok || a.States != states || len(a.Arcs) != arcs {
		t.Errorf("AutoOf(%s) has %d states and %d arcs, not %d and %d", text, a.States, len(a.Arcs), states, arcs)
	}
}

func TestAutoOfWithinLimits(t *testing.T) {
	sizes := map[int]bool{}
	for inner := 1; inner <= 9; inner++ {
		for outer := 1; outer <= 9; outer++ {
			for more := range 9 {
				p := times(anEdge, outer, inner)
				if more > 0 {
					p = seq(append(slices.Repeat([]impl.Pat{anEdge}, more), p)...)
				}
				states := 2 + more + 1 + outer*(1+1+inner)
				sizes[states] = true
				expectSize(t, p, states, more+1+outer*(inner+2)+1)
			}
		}
	}
	if !sizes[59] || !sizes[60] || !sizes[61] {
		t.Error("no patterns at the limit of states")
	}
	sizes = map[int]bool{}
	for choices := 2; choices <= 22; choices++ {
		part := alt(slices.Repeat([]impl.Pat{anEdge}, choices)...)
		for lo := range 10 {
			for hi := max(lo, 1); hi <= 9; hi++ {
				arcs := 1 + hi*choices + hi - lo + 1
				sizes[arcs] = true
				expectSize(t, rep(part, lo, hi), 3+hi, arcs)
			}
			expectSize(t, rep(part, lo, -1), 3+lo, 1+lo*choices+1+choices)
		}
	}
	if !sizes[199] || !sizes[200] || !sizes[201] {
		t.Error("no patterns at the limit of arcs")
	}
}

// Patterns whose automata would have more states than there is memory for have
// none, and neither has what they are a part of.
func TestAutoOfPatternsThatAreFarTooGreat(t *testing.T) {
	many := []int{9, 9, 9, 9, 9, 9, 9}
	for _, p := range []impl.Pat{
		times(anEdge, 8, 8), times(anEdge, 9, 9, 9), times(anEdge, 9, 9, 9, 9, 9, 9, 9, 9, 9), times(anEdge, many...), rep(times(anEdge, many...), 0, -1), rep(times(anEdge, many...), 0, 1), rep(times(anEdge, many...), 9, -1),
		seq(times(anEdge, many...), anEdge), seq(anEdge, times(anEdge, many...)), alt(times(anEdge, many...), anEdge), alt(anEdge, times(anEdge, many...)), seq(times(anEdge, many...), times(edge("e"), many...)),
		times(alt(anEdge, anEdge, times(alt(anEdge, anEdge, anEdge, anEdge), 9, 9, 9)), 9, 9, 9), times(seq(anEdge, rep(times(anEdge, 9, 9, 9), 9, -1), aNode), 9, 9, 9), times(seq(aNode, times(seq(anEdge, aNode), 9, 9, 9), anEdge), 9, 9, 9),
		patDeep(10, anEdge, func(p impl.Pat) impl.Pat { return rep(p, 9, -1) }), patDeep(10, anEdge, func(p impl.Pat) impl.Pat { return rep(p, 2, 9) }), patDeep(10, anEdge, inRep),
	} {
		if !impl.PatValid(p) {
			t.Errorf("%s is not valid", impl.FormatPat(p))
		}
		a, ok := impl.AutoOf(p)
		expectNoAuto(t, "AutoOf of "+impl.FormatPat(p), a, ok)
	}
	// Each repetition makes its part twice.
	states, arcs := 0, 1
	for way := 1; way <= 10; way++ {
		expectSize(t, patDeep(way, anEdge, inRep), 2+states, arcs)
		states, arcs = 2+2*states, 2+2*arcs
	}
}

func TestAutoValid(t *testing.T) {
	for _, text := range []string{
		"2", "3", "60", "2 0>1", "2 1>0", "2 0>0", "2 1>1", "60 59>59", "60 0>59 59>1", "2 0>1 0>1 0>1", "2 0>1() 1>0-[]-> 1>1<-[]- 0>0-[]-", "5 4>3(:a|!b?<5) 2>2-[:%?!=99]->", "60 59>0(:a) 0>59-[]- 1>0",
	} {
		if a := autoFrom(t, text); !impl.AutoValid(a) {
			t.Errorf("AutoValid(%s) = false", text)
		}
	}
	for states := 2; states <= 60; states++ {
		for _, arcs := range []int{0, 1, 2, 199, 200, 201, 202, 1000} {
			if got := impl.AutoValid(looseAuto(states, arcs)); got != (arcs <= 200) {
				t.Errorf("AutoValid of %d states and %d arcs = %v", states, arcs, got)
			}
		}
		for state := -2; state < states+3; state++ {
			is := state >= 0 && state < states
			for what, arc := range map[string]impl.Arc{"from": free(state, 1), "to": free(0, state), "from and to": along(state, state, aNode.Elem), "along an edge to": along(1, state, anEdge.Elem)} {
				if got := impl.AutoValid(impl.Auto{States: states, Arcs: []impl.Arc{free(0, 1), arc, free(0, 1)}}); got != is {
					t.Errorf("AutoValid of %d states and an arc %s %d = %v", states, what, state, got)
				}
			}
		}
	}
	for what, a := range brokenAutos() {
		if impl.AutoValid(a) {
			t.Errorf("AutoValid accepts %s", what)
		}
	}
	// An empty list is none.
	none := impl.Expr{Kids: []impl.Expr{}}
	if a := (impl.Auto{States: 2, Arcs: []impl.Arc{{From: 0, To: 1, Free: true, Elem: impl.Elem{Labels: none, Cond: none}}, along(0, 1, impl.Elem{Node: true, Labels: none})}}); !impl.AutoValid(a) {
		t.Error("AutoValid accepts no empty lists")
	}
}

func TestAutoValidOfElements(t *testing.T) {
	for _, x := range elemsWithTexts() {
		for _, isFree := range []bool{false, true} {
			a := impl.Auto{States: 2, Arcs: []impl.Arc{{From: 0, To: 1, Free: isFree, Elem: x.e}}}
			if got := impl.AutoValid(a); got != (!isFree && x.e.Var == "") {
				t.Errorf("AutoValid of an arc along %s, %v, = %v", x.text, isFree, got)
			}
		}
	}
}

// expectAccepted fails unless the automaton of a pattern accepts the first ones
// of these walks of a graph, and not the other ones, and unless the pattern without
// its variables is fitted by the same ones.
func expectAccepted(t *testing.T, graph string, text string, accepted string, others string) {
	t.Helper()
	g, p, a := parsed(t, graph), plainStripped(patOf(t, text)), autoOf(t, text)
	for i, list := range []string{others, accepted} {
		for _, walk := range strings.Fields(list) {
			w, ok := impl.ParseWalk(walk)
			if !ok || !impl.WalkValid(g, w) || len(w.Edges) <= 4 && impl.FitsWalk(g, p, w) != (i == 1) {
				t.Errorf("%s fits %s, or does not, or is no walk", walk, text)
			}
			expectFit(t, text, g, a, w, i == 1)
		}
	}
}

func TestAutoFits(t *testing.T) {
	for text, lists := range map[string][2]string{
		"()": {"0 1 2", "0-0-1 2-3-2"}, "(x:a)": {"0 2", "1 2-3-2"}, "(x:a?<2)": {"0", "1 2"}, "(:a)(?>1)()": {"2", "0 1"}, "(:a)(:b)": {"", "0 1 2"},
		"-[]->": {"0-0-1 1-1-2 2-2-0 2-3-2", "0 2 1-0-0 0-0-1-1-2"}, "<-[]-": {"1-0-0 0-2-2 2-3-2", "0-0-1 1"}, "-[e:r]-": {"0-0-1 1-0-0 2-1-1", "2-2-0 2-3-2 0-0-1-0-0"}, "-[?<2]->": {"1-1-2 2-3-2", "0-0-1 2-1-1"},
		// An element of nodes at the end, and at the beginning.
		"-[]->(:a)": {"1-1-2 2-2-0 2-3-2", "0-0-1 1 0"}, "(:a)-[]->": {"0-0-1 2-2-0", "1-1-2 2-1-1 0"}, "{-[]->}+(y:b)": {"0-0-1 2-2-0-0-1 2-3-2-2-0-0-1", "0-0-1-1-2 1 2"}, "{-[]->}*(:b)": {"1 0-0-1", "0 2 1-1-2"}, "-[]->(:a)(?>2)": {"1-1-2 2-3-2", "2-2-0"},
		// Repetitions of no times.
		"{-[]->}*": {"0 1 2 0-0-1 0-0-1-1-2-3-2-3-2-2-0", "1-0-0 0-0-1-0-0"}, "{-[:r]->}?": {"0 1 0-0-1", "2-2-0 0-0-1-1-2"}, "(:b){-[]->}^0,2": {"1 1-1-2 1-1-2-3-2", "0 0-0-1 1-1-2-3-2-3-2"}, "(:b){-[]-}*(:a)": {"1-0-0 1-1-2-2-0-0-1-1-2", "1 0 2-1-1"},
		"{-[:s]->}*{-[:r]->}*": {"0 1 2-2-0 0-0-1 2-2-0-0-1-1-2", "0-0-1-1-2-2-0 2-3-2"}, "{-[:s]->}?(:a){-[:r]->}?": {"0 2 2-2-0 0-0-1 2-2-0-0-1", "1 1-1-2"}, "{-[:t]->|{-[:r]->}*}": {"0 1 2-3-2 0-0-1-1-2", "2-3-2-3-2 2-2-0"},
		// Repetitions of so many times.
		"{-[]->}^2,2": {"0-0-1-1-2 2-3-2-3-2", "0 0-0-1 0-0-1-1-2-2-0"}, "{-[]->}^2,3": {"0-0-1-1-2 0-0-1-1-2-2-0", "0-0-1 0-0-1-1-2-2-0-0-1"}, "{-[]->}^2,": {"0-0-1-1-2 0-0-1-1-2-2-0 2-3-2-3-2-3-2-3-2-3-2-3-2-3-2-3-2", "0 0-0-1"}, "{-[]->}^9,9": {"", "0 2-3-2-3-2-3-2-3-2-3-2-3-2-3-2-3-2"},
		"{-[:t]->}^8,8": {"2-3-2-3-2-3-2-3-2-3-2-3-2-3-2-3-2", "2-3-2-3-2-3-2-3-2-3-2-3-2-3-2 2"}, "{{-[]->}^2,2}^1,2": {"0-0-1-1-2 0-0-1-1-2-2-0-0-1", "0 0-0-1 0-0-1-1-2-2-0"}, "{{-[:r]->}+-[:s]->}+": {"0-0-1-1-2-2-0 1-1-2-2-0-0-1-1-2-2-0", "2-2-0 0-0-1-1-2"},
		// A cycle that is gone several times, and one edge in both directions.
		"{-[:r]->-[:r]->-[:s]->}+": {"0-0-1-1-2-2-0 0-0-1-1-2-2-0-0-1-1-2-2-0", "0 0-0-1-1-2-2-0-0-1 1-1-2-2-0-0-1 0-0-1-1-2-3-2-2-0"}, "{{-[]->(:!c)}^3,3}^2,2": {"0-0-1-1-2-2-0-0-1-1-2-2-0 1-1-2-2-0-0-1-1-2-2-0-0-1", "0-0-1-1-2-2-0"}, "{-[:t]->-[:t]->}*(:a)": {"0 2 2-3-2-3-2 2-3-2-3-2-3-2-3-2", "1 2-3-2 2-3-2-3-2-3-2"},
		"{-[]-><-[]-}+": {"0-0-1-0-0 0-0-1-0-0-0-1-0-0 2-3-2-3-2", "0 0-0-1 0-0-1-0-0-0-1"}, "{-[]-}^8,": {"0-0-1-0-0-0-1-0-0-0-1-0-0-0-1-0-0", "0-0-1-0-0-0-1-0-0-0-1-0-0-0-1"},
		// Choices, of which another one can be taken each time.
		"{-[:r]->|-[:s]->(:a)}^3,": {"0-0-1-1-2-2-0 2-2-0-0-1-1-2-2-0", "0-0-1-1-2 2-3-2-3-2-3-2"}, "{-[:r]->(:b)|{-[:t]->}^1,2-[:s]->}*": {"0 0-0-1 2-3-2-2-0-0-1 2-3-2-3-2-2-0", "1-1-2 2-2-0 2-3-2-3-2-3-2-2-0"}, "{(:b)-[]->|(:a)<-[]-}+": {"1-1-2 0-2-2-3-2 2-1-1-1-2-1-1", "1-0-0 0-0-1 0-2-2-2-0"},
		// Variables have no effect.
		"(x)-[]->(x)": {"0-0-1 2-3-2", "0 1-0-0"}, "-[e]-(y)-[e]-": {"0-0-1-0-0 0-0-1-1-2", "0"}, "(x){-[e]->}+(x)": {"0-0-1", "0 1-0-0"},
	} {
		expectAccepted(t, round, text, lists[0], lists[1])
	}
}

// Arcs that are put together by hand: at the start and the end, that lead back
// to these, or on from the end, and freely in a circle.
func TestAutoFitsOfOtherAutos(t *testing.T) {
	g := parsed(t, round)
	for text, lists := range map[string][2]string{
		"2": {"", "0 1 0-0-1"}, "2 1>0": {"", "0 0-0-1"}, "2 0>0 1>1": {"", "0"}, "2 0>1": {"0 1", "0-0-1"}, "2 0>1 0>1-[]->": {"0 0-0-1", "1-0-0 0-0-1-1-2"}, "2 0>1() 1>0-[]->": {"0 0-0-1 0-0-1-1-2", "1-0-0"}, "2 0>0-[]- 0>1(:b)": {"1 0-0-1 1-0-0-0-1", "0 1-0-0"},
		"2 0>1-[]-> 1>1(:c)": {"0-0-1", "0 0-0-1-1-2"}, "2 0>1(:b) 1>1-[]->": {"1 1-1-2 1-1-2-3-2", "0 0-0-1"}, "3 0>2 2>0 2>1-[]-> 1>2(:b)": {"0-0-1 0-0-1-1-2", "0 1-1-2-2-0"}, "4 0>2 2>3 3>0 3>2 2>1": {"0 2", "0-0-1"}, "60 0>59-[]-> 59>58(:b) 58>1-[:r]->": {"0-0-1-1-2", "1-1-2-2-0 0-0-1"},
		"3 0>2-[]-> 2>1-[:r]-> 0>2-[:t]- 2>1(:a)": {"0-0-1-1-2 1-1-2 2-3-2", "0-0-1 0 2-2-0-2-2"}, "3 2>1": {"", "0"}, "3 0>2": {"", "0"}, "3 2>0-[]-> 1>2-[]->": {"", "0-0-1 0-0-1-1-2 1-0-0"},
	} {
		a := autoFrom(t, text)
		for i, list := range lists {
			for _, walk := range strings.Fields(list) {
				w, _ := impl.ParseWalk(walk)
				if plainAccepts(g, a, w) != (i == 0) {
					t.Errorf("%s accepts %s, or does not", text, walk)
				}
				expectFit(t, text, g, a, w, i == 0)
			}
		}
	}
}

func TestAutoFitsWithinLimits(t *testing.T) {
	a := looseAuto(2, 2)
	for _, g := range []impl.Graph{sized(1, 1), sized(1, 14), ring(8)} {
		for edges := range 20 {
			w := standing(edges)
			for i := range edges {
				if len(g.Nodes) > 1 {
					w.Nodes[i+1], w.Edges[i] = (i+1)%8, i%8
				}
			}
			if got := impl.AutoFits(g, a, w); got != (edges <= 8) {
				t.Errorf("AutoFits of a walk of %d edges = %v", edges, got)
			}
		}
	}
}

func TestAutosOfInvalidArguments(t *testing.T) {
	g, a := parsed(t, round), looseAuto(3, 4)
	expectFit(t, "a loose automaton", g, a, walkOf(0, 0, 1), true)
	for what, bad := range brokenAutos() {
		for _, w := range []impl.Walk{walkOf(0), walkOf(0, 0, 1), {}} {
			if impl.AutoFits(g, bad, w) {
				t.Errorf("AutoFits accepts %.80s", what)
			}
		}
		expectNoEnds(t, what, g, bad, 0, 0)
		expectNoEnds(t, what, g, bad, 0, 1)
		turned, ok := impl.TurnAuto(bad)
		expectNoAuto(t, "TurnAuto of "+what, turned, ok)
	}
	for what, bad := range invalidGraphs() {
		for _, w := range []impl.Walk{walkOf(0), walkOf(1), walkOf(0, 0, 0), walkOf(0, 0, 1), {}} {
			if impl.AutoFits(bad, a, w) {
				t.Errorf("AutoFits accepts %v in a graph with %s", w, what)
			}
		}
		expectNoEnds(t, what, bad, a, 0, 0)
		expectNoEnds(t, what, bad, a, 0, 1)
	}
	for what, w := range misshapen() {
		if impl.AutoFits(sized(1, 14), a, w) || impl.AutoFits(sized(1, 1), looseAuto(2, 1), w) {
			t.Errorf("AutoFits accepts %s", what)
		}
	}
	for _, w := range []impl.Walk{walkOf(3), walkOf(-1), walkOf(0, 1, 1), walkOf(0, 0, 2), walkOf(0, 4, 1), walkOf(0, -1, 1), walkOf(0, 0, 3), walkOf(0, 0, -1), walkOf(0, 0, 0), walkOf(1<<62, 0, 0)} {
		if impl.AutoFits(g, a, w) {
			t.Errorf("AutoFits accepts %v", w)
		}
	}
	for _, bad := range []int{-1 << 63, -3, -1, 3, 4, 8, 1 << 40, 1<<63 - 1} {
		for _, pair := range [][2]int{{bad, 0}, {0, bad}, {bad, bad}, {bad, 2}, {1, bad}} {
			if got, ok := impl.AutoFewest(g, a, pair[0], pair[1]); got != 0 || ok {
				t.Errorf("AutoFewest from %d to %d = %d, %v", pair[0], pair[1], got, ok)
			}
		}
	}
}

// expectNoEnds fails unless AutoEnds and AutoFewest return nothing and false.
func expectNoEnds(t *testing.T, what string, g impl.Graph, a impl.Auto, from int, to int) {
	t.Helper()
	if ends, ok := impl.AutoEnds(g, a); len(ends) != 0 || ok {
		t.Errorf("AutoEnds of %.80s = %v, %v", what, ends, ok)
	}
	if edges, ok := impl.AutoFewest(g, a, from, to); edges != 0 || ok {
		t.Errorf("AutoFewest of %.80s = %d, %v", what, edges, ok)
	}
}

func TestAutoEndsAndAutoFewest(t *testing.T) {
	for _, x := range []struct{ graph, text, want string }{
		// Each pair of ends, with the fewest edges.
		{round, "()", "00:0 11:0 22:0"}, {round, "(:b)", "11:0"}, {round, "(:c)", ""}, {round, "(:a)(:b)", ""}, {round, "-[]->", "01:1 12:1 20:1 22:1"}, {round, "<-[:r]-", "10:1 21:1"}, {round, "-[]-(:a)", "02:1 10:1 12:1 20:1 22:1"},
		{round, "{-[]->}+", "00:3 01:1 02:2 10:2 11:3 12:1 20:1 21:2 22:1"}, {round, "{-[]->}*", "00:0 01:1 02:2 10:2 11:0 12:1 20:1 21:2 22:0"}, {round, "{-[:r]->}+", "01:1 02:2 12:1"}, {round, "{-[]-}*(:b)", "01:1 11:0 21:1"}, {round, "(:b){-[]-}+(:b)", "11:2"},
		{round, "{-[]->}?", "00:0 01:1 11:0 12:1 20:1 22:0"}, {round, "{-[:!t]->}^2,2", "02:2 10:2 21:2"}, {round, "{-[:!t]->}^4,9", "00:6 01:4 02:5 10:5 11:6 12:4 20:4 21:5 22:6"}, {round, "{-[:!t]->}^5,", "00:6 01:7 02:5 10:5 11:6 12:7 20:7 21:5 22:6"},
		{round, "{{-[:!t]->}^2,2}+", "00:6 01:4 02:2 10:2 11:6 12:4 20:4 21:2 22:6"}, {round, "{-[:r]->-[:r]->-[:s]->}^3,3", "00:9"}, {round, "{-[:t]->}^9,9", "22:9"}, {round, "{{-[:t]->}^9,9}^3,3", "22:27"}, {round, "{{-[:t]->-[:t]->-[:t]->}^2,2}*(:a)", "00:0 22:0"},
		{round, "{-[:r]->|{-[:s]->}^1,1(:a)}^7,7", "01:7 12:7 20:7"}, {round, "-[:t]-{-[:s]-}+-[:t]-", "22:4"}, {round, "(:a)-[]->{-[]->-[]->|()}(:a)", "00:3 02:3 20:1 22:1"}, {round, "(x)-[e]->(x)", "01:1 12:1 20:1 22:1"},
		// Parts of graphs that no edge joins, edges that lead the same way, and nodes without any.
		{"( 0)", "{-[]-}*", "00:0"}, {"( 0)", "{-[]-}+", ""}, {"( 0)[0>0  0]", "{-[]-}^5,", "00:5"}, {"( 0)( 1)", "{-[]-}*", "00:0 11:0"}, {"( 0)( 1)( 2)( 3)[3>2  0][0>1  0]", "{-[]-}+", "00:2 01:1 10:1 11:2 22:2 23:1 32:1 33:2"}, {"( 0)( 1)[0>1  0][0>1  1][0>1  0]", "-[]->", "01:1"},
		{"( 0)( 1)( 2)[2>0  0][1>0  0]", "{-[]->}*", "00:0 10:1 11:0 20:1 22:0"}, {"( 0)( 1)( 2)[2>1  0][1>0  0]", "{-[]->}+(?<1)", "10:1 20:2"},
	} {
		g, a := parsed(t, x.graph), autoOf(t, x.text)
		c := newCosts(len(g.Nodes))
		for _, part := range strings.Fields(x.want) {
			c[part[0]-'0'][part[1]-'0'], _ = strconv.Atoi(part[3:])
		}
		checkEnds(t, x.text, g, a, c)
	}
}

// Walks can be far longer than those of matches, and than those with their shape.
func TestAutoFewestOfLongWalks(t *testing.T) {
	for nodes := 1; nodes <= 8; nodes++ {
		g := ring(nodes)
		for length := 1; length <= 9; length++ {
			c := newCosts(nodes)
			for from := range nodes {
				for n := nodes; n >= 1; n-- {
					c[from][(from+n*length)%nodes] = n * length
				}
			}
			around := autoOf(t, "{{-[]->}^"+number(length)+","+number(length)+"}+")
			checkEnds(t, "a circle of "+number(length)+" edges", g, around, c)
		}
		// As many states as there can be, in a circle but for the end, which is
		// reached from the last one of them.
		a := impl.Auto{States: 60, Arcs: []impl.Arc{along(59, 0, anEdge.Elem), free(59, 1), along(0, 2, anEdge.Elem)}}
		for state := 2; state < 59; state++ {
			a.Arcs = append(a.Arcs, along(state, state+1, anEdge.Elem))
		}
		c := newCosts(nodes)
		for from := range nodes {
			for n := nodes - 1; n >= 0; n-- {
				c[from][(from+58+n*59)%nodes] = 58 + n*59
			}
		}
		checkEnds(t, "a circle of all states", g, a, c)
	}
}

// The fewest edges are found even if more arcs, or later ones, lead there.
func TestAutoFewestOfArcsInAnyOrder(t *testing.T) {
	g := parsed(t, "( 0)( 1)( 2)[0>1  0][1>2  0][0>2  0][2>2  0]")
	for text, want := range map[string]int{
		"6 0>2-[]-> 2>1-[]-> 0>3 3>4 4>5 5>3 5>1-[]->": 1, "4 0>1-[]-> 1>0 0>2-[]-> 2>3-[]-> 3>1": 1, "3 0>2-[]-> 2>1-[]-> 2>1(?=2)": 1, "3 2>1() 0>2-[]-> 2>2-[]->": 1,
		"3 0>2-[]-> 2>1-[]->": 2, "4 0>2-[]-> 2>3-[]-> 3>1-[]-> 0>3-[]->": 2, "5 3>1-[]-> 2>3-[]-> 0>2-[]-> 1>3 3>4-[]-> 4>4-[]->": 3,
	} {
		if got, ok := impl.AutoFewest(g, autoFrom(t, text), 0, 2); !ok || got != want {
			t.Errorf("AutoFewest of %s = %d, %v, not %d", text, got, ok, want)
		}
	}
}

// Promise 8: automata accept the walks of patterns.
func TestAutomataAcceptTheWalksOfPatterns(t *testing.T) {
	g := parsed(t, round)
	walks := walksIn(t, g, 3)
	long := longWalks(g, 400)
	accepted, count := 0, 0
	for i, p := range autoPats() {
		a, ok := impl.AutoOf(p)
		if !ok {
			continue
		}
		count++
		stripped := plainStripped(p)
		for j, w := range walks {
			if (i+j)%3 != 0 {
				continue
			}
			want := plainFitsWalk(g, stripped, w)
			if want {
				accepted++
			}
			if impl.FitsWalk(g, stripped, w) != want {
				t.Fatalf("FitsWalk of %s and %s is not %v", impl.FormatPat(stripped), plainText(w), want)
			}
			if got := impl.AutoFits(g, a, w); got != want {
				t.Fatalf("AutoFits of %s and %s = %v", impl.FormatPat(p), plainText(w), got)
			}
		}
		for j := range 5 {
			w := long[(5*i+j)%len(long)]
			want := plainFitsWalk(g, stripped, w)
			if want {
				accepted++
			}
			if got := impl.AutoFits(g, a, w); got != want {
				t.Fatalf("AutoFits of %s and %s = %v", impl.FormatPat(p), plainText(w), got)
			}
		}
	}
	if count < 3000 || accepted < 8000 {
		t.Errorf("%d automata accept %d walks", count, accepted)
	}
}

// longWalks returns walks of a graph with 4 to 8 edges, more or less at random,
// but always the same ones.
func longWalks(g impl.Graph, count int) []impl.Walk {
	random := rand.New(rand.NewSource(8))
	var list []impl.Walk
	for i := range count {
		w := walkOf(random.Intn(len(g.Nodes)))
		for range 4 + i%5 {
			hops := plainHops(g, w.Nodes[len(w.Edges)], impl.Elem{Dir: impl.DirRight + random.Intn(2)*2})
			if len(hops) == 0 {
				break
			}
			hop := hops[random.Intn(len(hops))]
			w.Nodes, w.Edges = append(w.Nodes, hop.To), append(w.Edges, hop.Edge)
		}
		list = append(list, w)
	}
	return list
}

// Promise 8, for walks of any length: their ends, and the fewest edges.
func TestAutomataHaveTheEndsOfPatterns(t *testing.T) {
	graphs := []impl.Graph{parsed(t, round), parsed(t, crossing), parsed(t, sample), ring(4)}
	for i, p := range autoPats() {
		a, ok := impl.AutoOf(p)
		if !ok {
			continue
		}
		g, text := graphs[i%len(graphs)], impl.FormatPat(p)
		stripped := plainStripped(p)
		checkEnds(t, text, g, a, plainEnds(g, stripped))
		if most, _ := impl.MostEdges(p); most == -1 || most > 4 {
			continue
		}
		// All walks are those of matches, if these are not too many.
		want, ok := impl.EndsOf(g, stripped, impl.ModeWalk, 4)
		if ends, _ := impl.AutoEnds(g, a); ok && !slices.EqualFunc(ends, want, slices.Equal[[]int]) {
			t.Errorf("AutoEnds of %s = %v, not %v", text, ends, want)
		}
	}
}

// manyAutos returns automata with few states and arcs of all kinds, more or less
// at random, but always the same ones.
func manyAutos(t *testing.T, count int, states int) []impl.Auto {
	random := rand.New(rand.NewSource(9))
	var elems []impl.Elem
	for _, text := range []string{"()", "(:a)", "(?>1)", "(:!b)", "-[]->", "<-[]-", "-[]-", "-[:r]->", "<-[:r]-", "-[:s|t]->", "-[?<4]-", "-[:%]->"} {
		elems = append(elems, elemOf(t, text))
	}
	var list []impl.Auto
	for range count {
		a := impl.Auto{States: 2 + random.Intn(states-1)}
		for range random.Intn(3*states) + 1 {
			arc := free(random.Intn(a.States), random.Intn(a.States))
			if random.Intn(3) > 0 {
				arc = along(arc.From, arc.To, elems[random.Intn(len(elems))])
			}
			a.Arcs = append(a.Arcs, arc)
		}
		list = append(list, a)
	}
	return list
}

func TestManyAutos(t *testing.T) {
	graphs := []impl.Graph{parsed(t, round), parsed(t, crossing), parsed(t, "(a 1)(b 2)[0>1 r 3][1>1  0][1>0 s 9]"), parsed(t, "(a 1)( 3)(b 0)( 9)[0>1 r 1][1>2 s 2][2>3 t 3]")}
	var lists [][]impl.Walk
	for _, g := range graphs {
		lists = append(lists, append(walksIn(t, g, 2), longWalks(g, 200)...))
	}
	accepted, ends := 0, 0
	for i, a := range manyAutos(t, 2000, 6) {
		g, walks := graphs[i%len(graphs)], lists[i%len(graphs)]
		c := autoCosts(g, a)
		checkEnds(t, autoText(a), g, a, c)
		for j := range 30 {
			w := walks[(i*30+j)%len(walks)]
			want := plainAccepts(g, a, w)
			expectFit(t, autoText(a), g, a, w, want)
			if want {
				accepted++
			}
			if want && c[w.Nodes[0]][w.Nodes[len(w.Edges)]] > len(w.Edges) {
				t.Errorf("%s accepts %s, which has fewer edges than the fewest", autoText(a), plainText(w))
			}
		}
		for _, row := range c {
			ends += len(row) - countFar(row)
		}
	}
	if accepted < 5000 || ends < 5000 {
		t.Errorf("the automata accept %d walks with %d ends", accepted, ends)
	}
}

func countFar(row []int) int {
	return len(slices.DeleteFunc(slices.Clone(row), func(edges int) bool { return edges < far }))
}

// The ends of an automaton are those of the walks that it accepts, and the
// fewest edges those of the shortest ones: with so few states and nodes, no one
// of these has more edges than a walk with its shape.
func TestEndsAreThoseOfWalks(t *testing.T) {
	for _, text := range []string{"(a 1)(b 2)[0>1 r 3][1>1 s 0]", "(a 1)(b 2)[1>0 r 3][0>1 t 9]"} {
		g := parsed(t, text)
		walks := walksIn(t, g, 4)
		for _, w := range walks {
			for _, other := range walksIn(t, g, 3) {
				if joined, ok := impl.JoinWalks(w, other); ok && len(w.Edges) == 4 && len(other.Edges) > 0 {
					walks = append(walks, joined)
				}
			}
		}
		for _, a := range manyAutos(t, 60, 4) {
			c := newCosts(2)
			for _, w := range walks {
				if from, to := w.Nodes[0], w.Nodes[len(w.Edges)]; impl.AutoFits(g, a, w) {
					c[from][to] = min(c[from][to], len(w.Edges))
				}
			}
			checkEnds(t, autoText(a), g, a, c)
		}
	}
}

func TestTurnAuto(t *testing.T) {
	for text, want := range map[string]string{
		"2": "2", "60": "60", "2 0>1": "2 0>1", "2 1>0": "2 1>0", "2 0>0": "2 1>1", "2 1>1-[]-": "2 0>0-[]-", "3 2>2": "3 2>2", "3 0>2 2>1": "3 2>1 0>2", "4 2>3-[:r]-> 3>0 1>2(:a)": "4 3>2<-[:r]- 1>3 2>0(:a)",
		"4 0>2 2>3-[:r]-> 3>1 3>3-[:r]->": "4 2>1 3>2<-[:r]- 0>3 3>3<-[:r]-", "2 0>1-[:!a&b?<5]-> 0>1<-[?%]- 0>1-[:a]- 0>1(:a|b?=3)": "2 0>1<-[:!a&b?<5]- 0>1-[?%]-> 0>1-[:a]- 0>1(:a|b?=3)", "60 59>58 0>59 0>58-[]-> 1>59<-[]-": "60 58>59 59>1 58>1<-[]- 59>0-[]->",
	} {
		a := autoFrom(t, text)
		turned, ok := impl.TurnAuto(a)
		if !ok || autoText(turned) != want || !plainAutoSame(turned, autoFrom(t, want)) {
			t.Errorf("TurnAuto(%s) = %s, %v, not %s", text, autoText(turned), ok, want)
		}
		if back, ok := impl.TurnAuto(turned); !ok || !plainAutoSame(back, a) {
			t.Errorf("TurnAuto(%s) turned again = %s, %v", text, autoText(back), ok)
		}
	}
	for states := 2; states <= 60; states++ {
		for _, arcs := range []int{0, 1, 199, 200, 201} {
			a, ok := impl.TurnAuto(looseAuto(states, arcs))
			if arcs > 200 {
				expectNoAuto(t, "TurnAuto of too many arcs", a, ok)
			} else if !ok || a.States != states || len(a.Arcs) != arcs {
				t.Errorf("TurnAuto of %d states and %d arcs = %s, %v", states, arcs, autoText(a), ok)
			}
		}
	}
}

// An automaton turned has the turned walks, as a pattern turned has, and its
// ends are turned as well.
func TestTurnedAutosHaveTurnedWalks(t *testing.T) {
	g := parsed(t, crossing)
	long := longWalks(g, 300)
	for i, p := range autoPats() {
		a, ok := impl.AutoOf(p)
		if !ok {
			continue
		}
		turned, ok := impl.TurnAuto(a)
		back, _ := impl.TurnPat(p)
		other, ok2 := impl.AutoOf(back)
		if !ok || !ok2 || !impl.AutoValid(turned) {
			t.Fatalf("TurnAuto or AutoOf of %s turned fails", impl.FormatPat(p))
		}
		c := plainEnds(g, plainStripped(p))
		around := newCosts(len(c))
		for from := range c {
			for to := range c {
				around[to][from] = c[from][to]
			}
		}
		checkEnds(t, impl.FormatPat(p)+", turned", g, turned, around)
		for j := range 4 {
			w := long[(4*i+j)%len(long)]
			w = impl.Walk{Nodes: w.Nodes[:j+2], Edges: w.Edges[:j+1]}
			if got, want := impl.AutoFits(g, turned, w), impl.AutoFits(g, a, plainTurnedWalk(w)); got != want || impl.AutoFits(g, other, w) != want {
				t.Errorf("AutoFits of %s turned and %s = %v", impl.FormatPat(p), plainText(w), got)
			}
		}
	}
}

// The greatest automata and graphs that there can be.
func TestTheGreatestAutos(t *testing.T) {
	g := ring(8)
	for i := range 6 {
		g.Edges = append(g.Edges, impl.Edge{From: i, To: 7 - i, Label: "r", Num: 99})
	}
	a := impl.Auto{States: 60}
	for i := range 200 {
		e := impl.Elem{Node: i%3 == 0, Labels: wide(20), Cond: not(and(atom("<50"), atom(">60")))}
		if !e.Node {
			e.Dir = 1 + i%3
		}
		a.Arcs = append(a.Arcs, along((7*i)%60, (11*i+5)%60, e))
		if i%4 == 0 {
			a.Arcs[i] = free((13*i)%60, (17*i+1)%60)
		}
	}
	if !impl.AutoValid(a) || !impl.GraphValid(g) {
		t.Fatal("the greatest automaton or graph is not valid")
	}
	checkEnds(t, "the greatest automaton", g, a, autoCosts(g, a))
	for _, w := range longWalks(g, 20) {
		expectFit(t, "the greatest automaton", g, a, w, plainAccepts(g, a, w))
	}
	// All states are reached freely, from each other, and all nodes as well.
	a = impl.Auto{States: 60}
	for i := range 200 {
		a.Arcs = append(a.Arcs, free(i%60, (i+1)%60))
		if i%2 == 1 && i >= 60 {
			a.Arcs[i] = along(i%60, (i+7)%60, impl.Elem{Dir: impl.DirAny})
		}
	}
	checkEnds(t, "free arcs in a circle", g, a, autoCosts(g, a))
	expectFit(t, "free arcs in a circle", g, a, standing(0), true)
}

// roomyAuto returns an automaton in new memory, with more memory behind its
// arcs, and marks in it.
func roomyAuto(a impl.Auto) impl.Auto {
	c := impl.Auto{States: a.States}
	for _, arc := range a.Arcs {
		arc.Elem = copiedElem(arc.Elem)
		c.Arcs = append(c.Arcs, arc)
	}
	c.Arcs = append(c.Arcs, free(-7, -7), free(-8, -8))[:len(a.Arcs)]
	return c
}

func autoMarksStay(a impl.Auto) bool {
	behind := a.Arcs[:len(a.Arcs)+2][len(a.Arcs):]
	return plainArcSame(behind[0], free(-7, -7)) && plainArcSame(behind[1], free(-8, -8))
}

// wipeAuto writes over an automaton, and over the memory behind it.
func wipeAuto(a impl.Auto) {
	for i := range a.Arcs[:cap(a.Arcs)] {
		wipeElem(a.Arcs[:cap(a.Arcs)][i].Elem)
		a.Arcs[:cap(a.Arcs)][i] = free(-55, -55)
	}
}

// expectOwnMemory fails unless each arc of an automaton is in memory of its own,
// and all of it in other memory than another one that is equal.
func expectOwnMemory(t *testing.T, what string, first impl.Auto, second impl.Auto) {
	t.Helper()
	want := roomyAuto(second)
	wipeAuto(first)
	if !plainAutoSame(second, want) {
		t.Errorf("%s shares memory with another result", what)
	}
	for i := range second.Arcs {
		wipeElem(second.Arcs[i].Elem)
		second.Arcs[i].Elem = copiedElem(want.Arcs[i].Elem)
		if !plainAutoSame(second, want) {
			t.Fatalf("%s has arcs in the same memory", what)
		}
	}
}

func TestAutosShareNoMemory(t *testing.T) {
	leaves := []impl.Pat{anEdge, one(impl.Elem{Node: true, Labels: not(atom("a")), Cond: not(atom("<5"))}), one(impl.Elem{Var: "e", Labels: and(atom("r"), not(atom("s"))), Dir: impl.DirLeft})}
	for _, original := range manyPats(300, leaves) {
		text := impl.FormatPat(original)
		p := roomyPat(original)
		first, ok := impl.AutoOf(p)
		second, _ := impl.AutoOf(p)
		if !ok {
			continue
		}
		want := roomyAuto(first)
		if !plainPatSame(p, original) || !marksStay(p) {
			t.Errorf("AutoOf changes %s", text)
		}
		wipePat(p)
		if !plainAutoSame(first, want) {
			t.Errorf("AutoOf of %s is in the memory of its argument", text)
		}
		expectOwnMemory(t, "AutoOf of "+text, first, second)
		a := roomyAuto(want)
		first, _ = impl.TurnAuto(a)
		second, _ = impl.TurnAuto(a)
		back, _ := impl.TurnAuto(second)
		if !plainAutoSame(a, want) || !autoMarksStay(a) || !plainAutoSame(back, want) {
			t.Errorf("TurnAuto changes the automaton of %s", text)
		}
		former := roomyAuto(first)
		wipeAuto(a)
		if !plainAutoSame(first, former) {
			t.Errorf("TurnAuto of the automaton of %s is in the memory of its argument", text)
		}
		expectOwnMemory(t, "TurnAuto of the automaton of "+text, first, second)
	}
	// Memory behind empty lists of the argument is not in the result.
	behind := []impl.Expr{atom("mark")}
	none := impl.Expr{Kids: behind[:0]}
	for _, arc := range []impl.Arc{along(0, 1, impl.Elem{Node: true, Labels: none, Cond: impl.Expr{Op: impl.ExprAny, Kids: behind[:0]}}), {From: 0, To: 1, Free: true, Elem: impl.Elem{Labels: none, Cond: none}}} {
		turned, ok := impl.TurnAuto(impl.Auto{States: 2, Arcs: []impl.Arc{arc}})
		for _, arc := range turned.Arcs {
			wipeElem(arc.Elem)
		}
		if !ok || !plainSame(behind[0], atom("mark")) {
			t.Errorf("TurnAuto has memory of its argument: %v", turned)
		}
	}
	made, ok := impl.AutoOf(one(impl.Elem{Node: true, Labels: none, Cond: impl.Expr{Op: impl.ExprAny, Kids: behind[:0]}}))
	wipeAuto(made)
	if !ok || !plainSame(behind[0], atom("mark")) {
		t.Error("AutoOf has memory of its argument")
	}
}

func TestEndsOfAutosShareNoMemory(t *testing.T) {
	g := roomy()
	a := roomyAuto(autoOf(t, "(:!(b|c)){-[:r|!%]->}*"))
	first, ok := impl.AutoEnds(g, a)
	second, _ := impl.AutoEnds(g, a)
	w := markedWalk(walkOf(0, 0, 1))
	impl.AutoFits(g, a, w)
	impl.AutoFewest(g, a, 0, 1)
	impl.AutoValid(a)
	if !ok || len(first) != 4 || !impl.GraphSame(whole(g), whole(roomy())) || !plainAutoSame(a, autoOf(t, "(:!(b|c)){-[:r|!%]->}*")) || !autoMarksStay(a) || !untouchedWalk(w, walkOf(0, 0, 1)) {
		t.Errorf("AutoEnds = %v, %v, or a function changes its arguments", first, ok)
	}
	for i := range first {
		wipeList(first[i])
		for j, pair := range first {
			if j > i && !slices.Equal(pair, second[j]) {
				t.Errorf("pairs %d and %d of AutoEnds share memory", i, j)
			}
		}
	}
	if again, _ := impl.AutoEnds(g, a); !slices.EqualFunc(again, second, slices.Equal[[]int]) {
		t.Errorf("AutoEnds = %v, and later %v", second, again)
	}
}
