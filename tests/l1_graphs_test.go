package tests

import (
	"slices"
	"strconv"
	"strings"
	"testing"

	"loop.example/graphpatterns/impl"
)

// sample has a node without a label, an edge from a node to itself, an edge
// without a label, two edges between two nodes, and an equal one.
const sample = "(a 5)( 7)(b 99)[0>1 r 3][1>1  0][2>0 s 12][0>1 t 3][0>1 r 3][0>2 r 1]"

// parsed returns the graph with a text that must have one.
func parsed(t *testing.T, text string) impl.Graph {
	t.Helper()
	g, ok := impl.ParseGraph(text)
	if !ok {
		t.Fatalf("ParseGraph(%q) fails", text)
	}
	return g
}

// sampleGraph returns the graph of sample, without using the parser.
func sampleGraph() impl.Graph {
	return impl.Graph{
		Nodes: []impl.Node{{Label: "a", Num: 5}, {Num: 7}, {Label: "b", Num: 99}},
		Edges: []impl.Edge{
			{From: 0, To: 1, Label: "r", Num: 3},
			{From: 1, To: 1},
			{From: 2, To: 0, Label: "s", Num: 12},
			{From: 0, To: 1, Label: "t", Num: 3},
			{From: 0, To: 1, Label: "r", Num: 3},
			{From: 0, To: 2, Label: "r", Num: 1},
		},
	}
}

// sized returns a graph with so many nodes and edges, of which each edge leads
// from the last node to itself.
func sized(nodes int, edges int) impl.Graph {
	g := impl.Graph{Nodes: make([]impl.Node, nodes), Edges: make([]impl.Edge, edges)}
	for i := range g.Edges {
		g.Edges[i] = impl.Edge{From: nodes - 1, To: nodes - 1}
	}
	return g
}

// oneEdge returns a graph with two nodes and one edge.
func oneEdge(e impl.Edge) impl.Graph {
	return impl.Graph{Nodes: make([]impl.Node, 2), Edges: []impl.Edge{e}}
}

// invalidGraphs returns graphs that break one rule each.
func invalidGraphs() map[string]impl.Graph {
	return map[string]impl.Graph{
		"no nodes":            {},
		"no nodes, empty":     {Nodes: []impl.Node{}, Edges: []impl.Edge{}},
		"edges only":          {Edges: []impl.Edge{{}}},
		"9 nodes":             sized(9, 0),
		"15 edges":            sized(1, 15),
		"node with number -1": {Nodes: []impl.Node{{Label: "a"}, {Label: "a", Num: -1}}},
		"node with 100":       {Nodes: []impl.Node{{Num: 100}}},
		"node with capital":   {Nodes: []impl.Node{{Label: "A"}}},
		"node with 7 letters": {Nodes: []impl.Node{{Label: "abcdefg"}}},
		"node with a space":   {Nodes: []impl.Node{{Label: " "}}},
		"from -1":             oneEdge(impl.Edge{From: -1, To: 1}),
		"from 2 of 2":         oneEdge(impl.Edge{From: 2, To: 1}),
		"to -1":               oneEdge(impl.Edge{From: 1, To: -1}),
		"to 2 of 2":           oneEdge(impl.Edge{From: 1, To: 2}),
		"edge with number -1": oneEdge(impl.Edge{Num: -1}),
		"edge with 100":       oneEdge(impl.Edge{Num: 100}),
		"edge with a digit":   oneEdge(impl.Edge{Label: "r1"}),
		"edge with 7 letters": oneEdge(impl.Edge{Label: "abcdefg"}),
		"last edge is wrong":  {Nodes: make([]impl.Node, 2), Edges: []impl.Edge{{}, {To: 1}, {To: 2}}},
	}
}

// expectZero fails unless g is the zero value and ok is false.
func expectZero(t *testing.T, what string, g impl.Graph, ok bool) {
	t.Helper()
	if ok || len(g.Nodes) != 0 || len(g.Edges) != 0 {
		t.Errorf("%s = %v, %v", what, g, ok)
	}
}

// expectText fails unless g is the graph with a text, and ok holds.
func expectText(t *testing.T, what string, g impl.Graph, ok bool, text string) {
	t.Helper()
	if got := impl.FormatGraph(g); !ok || got != text {
		t.Errorf("%s = %q, %v, not %q", what, got, ok, text)
	}
}

func TestLabelValid(t *testing.T) {
	for _, s := range []string{"a", "z", "m", "ab", "zz", "abcde", "abcdef", "zzzzzz", "aaaaaa"} {
		if !impl.LabelValid(s) {
			t.Errorf("LabelValid(%q) does not hold", s)
		}
	}
	for _, s := range []string{"", "abcdefg", strings.Repeat("a", 1000), "é", "aé", " a", "a ", "a\n", "a\x00", "a-b"} {
		if impl.LabelValid(s) {
			t.Errorf("LabelValid(%q) holds", s)
		}
	}
}

func TestLabelValidOfEachByteInEachPlace(t *testing.T) {
	for length := 1; length <= 7; length++ {
		for place := range length {
			for b := range 256 {
				bytes := []byte(strings.Repeat("k", length))
				bytes[place] = byte(b)
				want := length <= 6 && b >= 'a' && b <= 'z'
				if s := string(bytes); impl.LabelValid(s) != want {
					t.Errorf("LabelValid(%q) = %v", s, !want)
				}
			}
		}
	}
}

func TestGraphValidWithinLimits(t *testing.T) {
	for nodes := 0; nodes <= 10; nodes++ {
		for edges := 0; edges <= 16; edges++ {
			want := nodes >= 1 && nodes <= 8 && edges <= 14
			if got := impl.GraphValid(sized(nodes, edges)); got != want {
				t.Errorf("GraphValid with %d nodes and %d edges = %v", nodes, edges, got)
			}
		}
	}
	for num := -2; num <= 102; num++ {
		want := num >= 0 && num <= 99
		if got := impl.GraphValid(impl.Graph{Nodes: []impl.Node{{Num: num}}}); got != want {
			t.Errorf("GraphValid with the number %d of a node = %v", num, got)
		}
		if got := impl.GraphValid(oneEdge(impl.Edge{Num: num})); got != want {
			t.Errorf("GraphValid with the number %d of an edge = %v", num, got)
		}
	}
}

func TestGraphValidOfEdges(t *testing.T) {
	for from := -2; from <= 4; from++ {
		for to := -2; to <= 4; to++ {
			want := from >= 0 && from < 2 && to >= 0 && to < 2
			if got := impl.GraphValid(oneEdge(impl.Edge{From: from, To: to})); got != want {
				t.Errorf("GraphValid with an edge from %d to %d = %v", from, to, got)
			}
		}
	}
	if !impl.GraphValid(sampleGraph()) || !impl.GraphValid(oneEdge(impl.Edge{Label: "abcdef", Num: 99})) {
		t.Error("GraphValid rejects a graph")
	}
	for what, g := range invalidGraphs() {
		if impl.GraphValid(g) {
			t.Errorf("GraphValid accepts %s", what)
		}
	}
}

func TestGraphSame(t *testing.T) {
	changes := map[string]func(g *impl.Graph){
		"label of a node":   func(g *impl.Graph) { g.Nodes[1].Label = "x" },
		"number of a node":  func(g *impl.Graph) { g.Nodes[2].Num = 1 },
		"from":              func(g *impl.Graph) { g.Edges[0].From = 2 },
		"to":                func(g *impl.Graph) { g.Edges[5].To = 0 },
		"label of an edge":  func(g *impl.Graph) { g.Edges[1].Label = "r" },
		"number of an edge": func(g *impl.Graph) { g.Edges[4].Num = 4 },
		"order of nodes":    func(g *impl.Graph) { g.Nodes[0], g.Nodes[1] = g.Nodes[1], g.Nodes[0] },
		"order of edges":    func(g *impl.Graph) { g.Edges[0], g.Edges[1] = g.Edges[1], g.Edges[0] },
		"a node less":       func(g *impl.Graph) { g.Nodes = g.Nodes[:2] },
		"an edge less":      func(g *impl.Graph) { g.Edges = g.Edges[:5] },
		"a node more":       func(g *impl.Graph) { g.Nodes = append(g.Nodes, impl.Node{}) },
		"an edge more":      func(g *impl.Graph) { g.Edges = append(g.Edges, impl.Edge{}) },
		"no edges":          func(g *impl.Graph) { g.Edges = nil },
		"nothing left":      func(g *impl.Graph) { *g = impl.Graph{} },
	}
	if !impl.GraphSame(sampleGraph(), sampleGraph()) {
		t.Error("GraphSame distinguishes equal graphs")
	}
	for what, change := range changes {
		changed := sampleGraph()
		change(&changed)
		if impl.GraphSame(sampleGraph(), changed) || impl.GraphSame(changed, sampleGraph()) {
			t.Errorf("GraphSame does not see another %s", what)
		}
		if !impl.GraphSame(changed, changed) {
			t.Errorf("GraphSame of a graph with another %s and itself does not hold", what)
		}
	}
}

func TestGraphSameAcceptsInvalidGraphs(t *testing.T) {
	for what, g := range invalidGraphs() {
		other, sameOther := invalidGraphs()[what], impl.GraphSame(g, sampleGraph())
		if !impl.GraphSame(g, other) || sameOther {
			t.Errorf("GraphSame is wrong for %s", what)
		}
	}
	if !impl.GraphSame(impl.Graph{}, impl.Graph{Nodes: []impl.Node{}, Edges: []impl.Edge{}}) {
		t.Error("GraphSame distinguishes nil and empty slices")
	}
	if impl.GraphSame(sized(9, 0), sized(10, 0)) || impl.GraphSame(oneEdge(impl.Edge{To: 7}), oneEdge(impl.Edge{To: 8})) {
		t.Error("GraphSame does not distinguish invalid graphs")
	}
}

func TestAddNode(t *testing.T) {
	g, ok := impl.AddNode(sampleGraph(), impl.Node{Label: "abcdef", Num: 99})
	expectText(t, "AddNode", g, ok, "(a 5)( 7)(b 99)(abcdef 99)[0>1 r 3][1>1  0][2>0 s 12][0>1 t 3][0>1 r 3][0>2 r 1]")
	g, ok = impl.AddNode(parsed(t, "(a 5)"), impl.Node{})
	expectText(t, "AddNode of a node without a label", g, ok, "(a 5)( 0)")
	for nodes := 1; nodes <= 7; nodes++ {
		if g, ok := impl.AddNode(sized(nodes, 14), impl.Node{Num: 1}); !ok || len(g.Nodes) != nodes+1 || g.Nodes[nodes].Num != 1 || len(g.Edges) != 14 {
			t.Errorf("AddNode to %d nodes = %v, %v", nodes, g, ok)
		}
	}
	g, ok = impl.AddNode(sized(8, 0), impl.Node{})
	expectZero(t, "AddNode to 8 nodes", g, ok)
	for _, n := range []impl.Node{{Num: -1}, {Num: 100}, {Label: "A"}, {Label: "a1"}, {Label: "abcdefg"}, {Label: " "}} {
		g, ok := impl.AddNode(sampleGraph(), n)
		expectZero(t, "AddNode of an invalid node", g, ok)
	}
	// Some of these would be valid with the node, as the one without nodes.
	for what, g := range invalidGraphs() {
		r, ok := impl.AddNode(g, impl.Node{Label: "a"})
		expectZero(t, "AddNode to one with "+what, r, ok)
	}
}

func TestAddEdge(t *testing.T) {
	g, ok := impl.AddEdge(sampleGraph(), impl.Edge{From: 2, To: 1, Label: "abcdef", Num: 99})
	expectText(t, "AddEdge", g, ok, sample+"[2>1 abcdef 99]")
	g, ok = impl.AddEdge(sampleGraph(), impl.Edge{From: 2, To: 2})
	expectText(t, "AddEdge from a node to itself", g, ok, sample+"[2>2  0]")
	g, ok = impl.AddEdge(sampleGraph(), impl.Edge{From: 0, To: 1, Label: "r", Num: 3})
	expectText(t, "AddEdge of an equal one", g, ok, sample+"[0>1 r 3]")
	for edges := 0; edges <= 13; edges++ {
		if g, ok := impl.AddEdge(sized(8, edges), impl.Edge{Num: 1}); !ok || len(g.Edges) != edges+1 || g.Edges[edges].Num != 1 || len(g.Nodes) != 8 {
			t.Errorf("AddEdge to %d edges = %v, %v", edges, g, ok)
		}
	}
	g, ok = impl.AddEdge(sized(1, 14), impl.Edge{})
	expectZero(t, "AddEdge to 14 edges", g, ok)
	for _, e := range []impl.Edge{{From: -1}, {To: -1}, {From: 3}, {To: 3}, {Num: -1}, {Num: 100}, {Label: "R"}, {Label: "abcdefg"}} {
		g, ok := impl.AddEdge(sampleGraph(), e)
		expectZero(t, "AddEdge of an invalid edge", g, ok)
	}
	for what, g := range invalidGraphs() {
		r, ok := impl.AddEdge(g, impl.Edge{})
		expectZero(t, "AddEdge to one with "+what, r, ok)
	}
}

func TestOutEdgesAndInEdges(t *testing.T) {
	g := sampleGraph()
	cases := []struct {
		node    int
		out, in []int
	}{
		{0, []int{0, 3, 4, 5}, []int{2}},
		{1, []int{1}, []int{0, 1, 3, 4}},
		{2, []int{2}, []int{5}},
		{3, nil, nil},
		{-1, nil, nil},
		{1 << 40, nil, nil},
	}
	for _, c := range cases {
		if out := impl.OutEdges(g, c.node); !slices.Equal(out, c.out) {
			t.Errorf("OutEdges of %d = %v", c.node, out)
		}
		if in := impl.InEdges(g, c.node); !slices.Equal(in, c.in) {
			t.Errorf("InEdges of %d = %v", c.node, in)
		}
	}
	full := sized(8, 14)
	if len(impl.OutEdges(full, 7)) != 14 || len(impl.InEdges(full, 7)) != 14 || len(impl.OutEdges(full, 6)) != 0 {
		t.Error("OutEdges or InEdges is wrong for 14 edges of a node")
	}
}

func TestOutEdgesAndInEdgesOfInvalidGraphs(t *testing.T) {
	for what, g := range invalidGraphs() {
		for node := -1; node <= 8; node++ {
			if len(impl.OutEdges(g, node)) != 0 || len(impl.InEdges(g, node)) != 0 {
				t.Errorf("OutEdges or InEdges finds edges in one with %s", what)
			}
		}
	}
}

func TestTurnGraph(t *testing.T) {
	g, ok := impl.TurnGraph(sampleGraph())
	expectText(t, "TurnGraph", g, ok, "(a 5)( 7)(b 99)[1>0 r 3][1>1  0][0>2 s 12][1>0 t 3][1>0 r 3][2>0 r 1]")
	g, ok = impl.TurnGraph(g)
	expectText(t, "TurnGraph of a turned graph", g, ok, sample)
	g, ok = impl.TurnGraph(parsed(t, "( 0)"))
	expectText(t, "TurnGraph without edges", g, ok, "( 0)")
	g, ok = impl.TurnGraph(sized(8, 14))
	if !ok || !impl.GraphSame(g, sized(8, 14)) {
		t.Errorf("TurnGraph at the limits = %v, %v", g, ok)
	}
	for what, g := range invalidGraphs() {
		r, ok := impl.TurnGraph(g)
		expectZero(t, "TurnGraph of one with "+what, r, ok)
	}
}

func TestFormatGraph(t *testing.T) {
	if s := impl.FormatGraph(sampleGraph()); s != sample {
		t.Errorf("FormatGraph = %q", s)
	}
	want := strings.Repeat("( 0)", 8) + strings.Repeat("[7>7  0]", 14)
	if s := impl.FormatGraph(sized(8, 14)); s != want {
		t.Errorf("FormatGraph at the limits = %q", s)
	}
	for what, g := range invalidGraphs() {
		if s := impl.FormatGraph(g); s != "" {
			t.Errorf("FormatGraph of one with %s = %q", what, s)
		}
	}
}

func TestParseGraph(t *testing.T) {
	if g := parsed(t, sample); !impl.GraphSame(g, sampleGraph()) {
		t.Errorf("ParseGraph = %v", g)
	}
	for _, text := range []string{
		"( 0)", "(a 0)", "( 99)", "(abcdef 99)", "(z 10)", "( 0)[0>0  0]", "(a 5)( 7)[0>1 r 3]",
		"( 0)( 0)[1>0 r 1][1>0 r 1]", "( 0)( 0)[1>0 r 1][0>1 r 1]", "( 0)[0>0 abcdef 99]",
		strings.Repeat("(abcdef 99)", 8) + strings.Repeat("[7>0 abcdef 99]", 14),
	} {
		if s := impl.FormatGraph(parsed(t, text)); s != text {
			t.Errorf("FormatGraph(ParseGraph(%q)) = %q", text, s)
		}
	}
}

func TestParseGraphOfOtherTexts(t *testing.T) {
	nodes, edges := strings.Repeat("(a 1)", 8), strings.Repeat("[0>0 r 1]", 14)
	for _, text := range []string{
		"", " ", "a", "(", ")", "()", "(a)", "( )", "(1)", "(a1)", "(a  1)", "(  1)", "(a 1 )", "( a 1)", "(a\t1)", "(a 1",
		"(a 100)", "(a 199)", "(a -1)", "(a -0)", "(a +1)", "(a 01)", "(a 00)", "(a 0x1)", "(a 1.0)", "(a 1_0)", "(a one)",
		"(a 4294967296)", "(a 18446744073709551616)", "(a 18446744073709551617)", "(a " + strings.Repeat("0", 10000) + ")",
		"(A 1)", "(a1 1)", "(a b 1)", "(abcdefg 1)", "(é 1)", "(a\x00 1)", "(\xff 1)", "(" + strings.Repeat("a", 10000) + " 1)",
		" (a 1)", "(a 1) ", "(a 1)\n", "(a 1)\x00", "(a 1) (b 2)", "(a 1)(", "(a 1)x", "((a 1))", "(a 1))", "[a 1]",
		"[0>0 r 1]", "[0>0 r 1](a 1)", "(a 1)[0>0 r 1](a 1)", "(a 1)[", "(a 1)[]", "(a 1)[0>0]", "(a 1)[0>0 r]", "(a 1)[0>0 1]", "(a 1)[0>0r 1]",
		"(a 1)[0>0 r 1", "(a 1)[0>0 r 1] ", "(a 1)[0>0 r 1]]", "(a 1)[0>0 r 1)", "(a 1)(0>0 r 1)", "(a 1)[0<0 r 1]", "(a 1)[0-0 r 1]", "(a 1)[00 r 1]",
		"(a 1)[0>1 r 1]", "(a 1)[1>0 r 1]", "(a 1)[-1>0 r 1]", "(a 1)[0>-1 r 1]", "(a 1)[>0 r 1]", "(a 1)[0> r 1]", "(a 1)[00>0 r 1]", "(a 1)[0>00 r 1]",
		"(a 1)[ 0>0 r 1]", "(a 1)[0 >0 r 1]", "(a 1)[0> 0 r 1]", "(a 1)[0>0  r 1]", "(a 1)[0>0 r  1]", "(a 1)[0>0 R 1]", "(a 1)[0>0 abcdefg 1]",
		"(a 1)[0>0 r 100]", "(a 1)[0>0 r -1]", "(a 1)[0>0 r 01]", "(a 1)[0>0 r ]", "(a 1)[18446744073709551616>0 r 1]", "(a 1)[0>18446744073709551616 r 1]",
		"(a 1)[0>0 r 1],[0>0 r 1]", nodes + "(a 1)", "(a 1)" + edges + "[0>0 r 1]", strings.Repeat("(a 1)", 10000), "(a 1)" + strings.Repeat("[0>0 r 1]", 10000),
	} {
		g, ok := impl.ParseGraph(text)
		expectZero(t, "ParseGraph of "+strconv.Quote(text[:min(len(text), 60)]), g, ok)
	}
	expectText(t, "ParseGraph at the limits", parsed(t, nodes+edges), true, nodes+edges)
}

// A text that differs in one byte is that of another graph, or of none.
func TestParseGraphOfChangedTexts(t *testing.T) {
	check := func(text string) {
		g, ok := impl.ParseGraph(text)
		if !ok {
			expectZero(t, "ParseGraph of "+strconv.Quote(text), g, ok)
		} else if s := impl.FormatGraph(g); s != text || !impl.GraphValid(g) {
			t.Errorf("ParseGraph(%q) is the graph of %q", text, s)
		}
	}
	for _, text := range []string{sample, "( 0)", "(ab 10)( 0)[1>0  9]"} {
		for i := range len(text) + 1 {
			if i < len(text) {
				check(text[:i])
				check(text[:i] + text[i+1:])
			}
			for b := range 256 {
				check(text[:i] + string([]byte{byte(b)}) + text[i:])
				if i < len(text) {
					check(text[:i] + string([]byte{byte(b)}) + text[i+1:])
				}
			}
		}
	}
}

// graphsOfAllSizes returns graphs with each number of nodes and edges, with
// labels and numbers of all lengths, by a rule.
func graphsOfAllSizes() []impl.Graph {
	labels := []string{"", "a", "zz", "abc", "qrst", "vwxyz", "abcdef"}
	nums := []int{0, 1, 9, 10, 11, 50, 98, 99}
	var list []impl.Graph
	step := 0
	for nodes := 1; nodes <= 8; nodes++ {
		for edges := 0; edges <= 14; edges++ {
			var g impl.Graph
			for range nodes {
				step += 7
				g.Nodes = append(g.Nodes, impl.Node{Label: labels[step%len(labels)], Num: nums[step/3%len(nums)]})
				step++
			}
			for range edges {
				step += 5
				e := impl.Edge{From: step % nodes, To: step / 2 % nodes, Label: labels[step/5%len(labels)], Num: nums[step%len(nums)]}
				g.Edges = append(g.Edges, e)
			}
			list = append(list, g)
		}
	}
	return list
}

// Promise 1: each graph has a text of its own, by which it is read back.
func TestGraphsAreReadBack(t *testing.T) {
	texts := map[string]bool{}
	for _, g := range graphsOfAllSizes() {
		text := impl.FormatGraph(g)
		if text == "" || texts[text] {
			t.Errorf("FormatGraph of %v = %q, which is empty or there already", g, text)
		}
		texts[text] = true
		if back := parsed(t, text); !impl.GraphSame(back, g) {
			t.Errorf("%v is read back as %v", g, back)
		}
	}
}

// A turned graph has edges in where the other one has edges out.
func TestTurnedGraphsAreReadBack(t *testing.T) {
	for _, g := range graphsOfAllSizes() {
		turned, ok := impl.TurnGraph(g)
		if !ok || !impl.GraphSame(parsed(t, impl.FormatGraph(turned)), turned) {
			t.Errorf("%v is turned to %v, %v", g, turned, ok)
		}
		for node := range g.Nodes {
			if !slices.Equal(impl.OutEdges(g, node), impl.InEdges(turned, node)) || !slices.Equal(impl.InEdges(g, node), impl.OutEdges(turned, node)) {
				t.Errorf("%v is turned to %v", g, turned)
			}
		}
		if back, ok := impl.TurnGraph(turned); !ok || !impl.GraphSame(back, g) {
			t.Errorf("%v is turned twice to %v", g, back)
		}
	}
}

// A graph that is built by steps is the one with the text of all steps.
func TestGraphsAreBuiltBySteps(t *testing.T) {
	for _, want := range graphsOfAllSizes() {
		g := impl.Graph{Nodes: want.Nodes[:1]}
		ok := true
		for _, n := range want.Nodes[1:] {
			g, ok = impl.AddNode(g, n)
			if !ok {
				t.Fatalf("AddNode of %v fails", n)
			}
		}
		for _, e := range want.Edges {
			g, ok = impl.AddEdge(g, e)
			if !ok {
				t.Fatalf("AddEdge of %v fails", e)
			}
		}
		if !impl.GraphSame(g, want) {
			t.Errorf("%v is built as %v", want, g)
		}
	}
}

// roomy returns the graph of sample, whose slices have more memory behind them,
// with marks there, so that a function that writes to it is seen.
func roomy() impl.Graph {
	g := sampleGraph()
	nodes, edges := make([]impl.Node, 20), make([]impl.Edge, 20)
	for i := range 20 {
		nodes[i], edges[i] = impl.Node{Label: "mark", Num: i}, impl.Edge{Label: "mark", Num: i}
	}
	copy(nodes, g.Nodes)
	copy(edges, g.Edges)
	return impl.Graph{Nodes: nodes[:len(g.Nodes)], Edges: edges[:len(g.Edges)]}
}

// whole returns a graph with the memory behind its slices.
func whole(g impl.Graph) impl.Graph {
	return impl.Graph{Nodes: g.Nodes[:cap(g.Nodes)], Edges: g.Edges[:cap(g.Edges)]}
}

// wipe writes over a graph, and over the memory behind it.
func wipe(g impl.Graph) {
	g = whole(g)
	for i := range g.Nodes {
		g.Nodes[i] = impl.Node{Label: "wiped", Num: -i}
	}
	for i := range g.Edges {
		g.Edges[i] = impl.Edge{Label: "wiped", From: -i, To: i}
	}
}

func TestGraphsShareNoMemory(t *testing.T) {
	calls := map[string]func(g impl.Graph) (impl.Graph, bool){
		"AddNode":   func(g impl.Graph) (impl.Graph, bool) { return impl.AddNode(g, impl.Node{Label: "n", Num: 1}) },
		"AddEdge":   func(g impl.Graph) (impl.Graph, bool) { return impl.AddEdge(g, impl.Edge{From: 1, Label: "n"}) },
		"TurnGraph": impl.TurnGraph,
	}
	for name, call := range calls {
		g := roomy()
		first, ok := call(g)
		second, ok2 := call(g)
		text := impl.FormatGraph(first)
		if !ok || !ok2 || text == "" || !impl.GraphSame(whole(g), whole(roomy())) {
			t.Errorf("%s changes its argument", name)
		}
		wipe(first)
		if impl.FormatGraph(second) != text || !impl.GraphSame(whole(g), whole(roomy())) {
			t.Errorf("results of %s share memory with its argument, or with each other", name)
		}
		wipe(g)
		if impl.FormatGraph(second) != text {
			t.Errorf("the result of %s is in the memory of its argument", name)
		}
	}
}

// Two graphs that are made from one do not disturb each other.
func TestGraphsBranch(t *testing.T) {
	g := parsed(t, "(a 1)")
	for range 3 {
		g, _ = impl.AddNode(g, impl.Node{Label: "b", Num: 2})
		g, _ = impl.AddEdge(g, impl.Edge{To: 1, Label: "r"})
	}
	base := impl.FormatGraph(g)
	one, ok := impl.AddEdge(g, impl.Edge{Label: "one"})
	two, ok2 := impl.AddEdge(g, impl.Edge{Label: "two"})
	expectText(t, "the first branch", one, ok, base+"[0>0 one 0]")
	expectText(t, "the second branch", two, ok2, base+"[0>0 two 0]")
	expectText(t, "what both began with", g, true, base)
}

func TestReadingLeavesGraphsAlone(t *testing.T) {
	g := roomy()
	out, in := impl.OutEdges(g, 0), impl.InEdges(g, 1)
	impl.FormatGraph(g)
	impl.GraphValid(g)
	impl.GraphSame(g, g)
	if !impl.GraphSame(whole(g), whole(roomy())) {
		t.Error("a function that reads a graph changes it")
	}
	out[0], in[0] = 9, 9
	if !slices.Equal(impl.OutEdges(g, 0), []int{0, 3, 4, 5}) || !slices.Equal(impl.InEdges(g, 1), []int{0, 1, 3, 4}) {
		t.Error("lists of edges share memory")
	}
	first := parsed(t, sample)
	wipe(first)
	expectText(t, "a text that is read again", parsed(t, sample), true, sample)
}
