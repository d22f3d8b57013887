package impl

import (
	"slices"
	"strconv"
	"strings"
)

// Node has a label and a number.
type Node struct {
	Label string
	Num   int
}

// Edge leads from a node to another one, and has a label and a number.
type Edge struct {
	From  int
	To    int
	Label string
	Num   int
}

// Graph has nodes and edges.
type Graph struct {
	Nodes []Node
	Edges []Edge
}

// Limits of graphs.
const (
	MaxNodes = 8
	MaxEdges = 14
	MaxNum   = 99
	MaxLabel = 6
)

// LabelValid reports whether s is a label.
func LabelValid(s string) bool {
	return len(s) <= MaxLabel && s != "" && countLetters(s) == len(s)
}

// GraphValid reports whether g is a graph.
func GraphValid(g Graph) bool {
	if len(g.Nodes) < 1 || len(g.Nodes) > MaxNodes || len(g.Edges) > MaxEdges {
		return false
	}
	for _, n := range g.Nodes {
		if !propsValid(n.Label, n.Num) {
			return false
		}
	}
	for _, e := range g.Edges {
		if !hasNode(g, e.From) || !hasNode(g, e.To) || !propsValid(e.Label, e.Num) {
			return false
		}
	}
	return true
}

// GraphSame reports whether two graphs are equal.
func GraphSame(a Graph, b Graph) bool {
	return slices.Equal(a.Nodes, b.Nodes) && slices.Equal(a.Edges, b.Edges)
}

// AddNode adds a node to a graph.
func AddNode(g Graph, n Node) (Graph, bool) {
	return extendGraph(g, []Node{n}, nil)
}

// AddEdge adds an edge to a graph.
func AddEdge(g Graph, e Edge) (Graph, bool) {
	return extendGraph(g, nil, []Edge{e})
}

// OutEdges returns the edges that lead from a node.
func OutEdges(g Graph, node int) []int {
	return edgesWhere(g, func(e Edge) bool { return e.From == node })
}

// InEdges returns the edges that lead to a node.
func InEdges(g Graph, node int) []int {
	return edgesWhere(g, func(e Edge) bool { return e.To == node })
}

// TurnGraph returns a graph with all edges the other way round.
func TurnGraph(g Graph) (Graph, bool) {
	if !GraphValid(g) {
		return Graph{}, false
	}
	turned := Graph{Nodes: slices.Concat(g.Nodes)}
	for _, e := range g.Edges {
		turned.Edges = append(turned.Edges, Edge{From: e.To, To: e.From, Label: e.Label, Num: e.Num})
	}
	return turned, true
}

// FormatGraph returns the text of a graph.
func FormatGraph(g Graph) string {
	if !GraphValid(g) {
		return ""
	}
	var b strings.Builder
	for _, n := range g.Nodes {
		b.WriteString("(" + formatProps(n.Label, n.Num) + ")")
	}
	for _, e := range g.Edges {
		ends := strconv.Itoa(e.From) + ">" + strconv.Itoa(e.To)
		b.WriteString("[" + ends + " " + formatProps(e.Label, e.Num) + "]")
	}
	return b.String()
}

// ParseGraph parses the text of a graph.
func ParseGraph(text string) (Graph, bool) {
	r := reader{text: text}
	var g Graph
	for r.startsWith('(') {
		g.Nodes = append(g.Nodes, r.takeNode())
	}
	for r.startsWith('[') {
		g.Edges = append(g.Edges, r.takeEdge())
	}
	if !r.finished() || !GraphValid(g) {
		return Graph{}, false
	}
	return g, true
}

// countLetters returns how many letters are at the beginning of a text.
func countLetters(text string) int {
	for i := range len(text) {
		if text[i] < 'a' || text[i] > 'z' {
			return i
		}
	}
	return len(text)
}

// propsValid reports whether a node or an edge can have this label and number.
func propsValid(label string, num int) bool {
	return (label == "" || LabelValid(label)) && num >= 0 && num <= MaxNum
}

// formatProps returns the part of a text that nodes and edges have in common.
func formatProps(label string, num int) string {
	return label + " " + strconv.Itoa(num)
}

// hasNode reports whether a number is that of a node.
func hasNode(g Graph, node int) bool {
	return node >= 0 && node < len(g.Nodes)
}

// hasEdge reports whether a number is that of an edge.
func hasEdge(g Graph, edge int) bool {
	return edge >= 0 && edge < len(g.Edges)
}

// extendGraph returns a graph with more nodes and edges, in new memory. The
// graph itself must be valid too: one without nodes is not, and must not
// become so by the node that is added.
func extendGraph(g Graph, nodes []Node, edges []Edge) (Graph, bool) {
	if !GraphValid(g) {
		return Graph{}, false
	}
	more := Graph{Nodes: slices.Concat(g.Nodes, nodes), Edges: slices.Concat(g.Edges, edges)}
	if !GraphValid(more) {
		return Graph{}, false
	}
	return more, true
}

// edgesWhere returns the edges of a valid graph that are wanted.
func edgesWhere(g Graph, wanted func(Edge) bool) []int {
	if !GraphValid(g) {
		return nil
	}
	var found []int
	for i, e := range g.Edges {
		if wanted(e) {
			found = append(found, i)
		}
	}
	return found
}

// reader takes a text apart, from its beginning to its end. Once it is bad, it
// stays so, whatever is taken then, so that callers can ask for it at the end.
type reader struct {
	text string
	at   int
	bad  bool
}

// startsWith reports whether the next byte is b. It never holds for a bad
// reader, so that loops over what comes next come to an end.
func (r *reader) startsWith(b byte) bool {
	return !r.bad && r.at < len(r.text) && r.text[r.at] == b
}

// finished reports whether all of the text has been taken.
func (r *reader) finished() bool {
	return !r.bad && r.at == len(r.text)
}

// take takes the byte b.
func (r *reader) take(b byte) {
	if !r.startsWith(b) {
		r.bad = true
		return
	}
	r.at++
}

// takeLetters takes all letters that come next, which can be none.
func (r *reader) takeLetters() string {
	start := r.at
	r.at += countLetters(r.text[start:])
	return r.text[start:r.at]
}

// takeNumber takes a decimal number. Only the digits with which the number is
// written are right: not none of them, nor leading zeros, nor too many.
func (r *reader) takeNumber() int {
	start := r.at
	for r.at < len(r.text) && isDigit(r.text[r.at]) {
		r.at++
	}
	num, err := strconv.Atoi(r.text[start:r.at])
	if err != nil || strconv.Itoa(num) != r.text[start:r.at] {
		r.bad = true
		return 0
	}
	return num
}

// isDigit reports whether b is a decimal digit.
func isDigit(b byte) bool {
	return b >= '0' && b <= '9'
}

// takeProps takes what formatProps writes.
func (r *reader) takeProps() (string, int) {
	label := r.takeLetters()
	r.take(' ')
	return label, r.takeNumber()
}

// takeNode takes the text of a node.
func (r *reader) takeNode() Node {
	r.take('(')
	label, num := r.takeProps()
	r.take(')')
	return Node{Label: label, Num: num}
}

// takeEdge takes the text of an edge.
func (r *reader) takeEdge() Edge {
	r.take('[')
	from := r.takeNumber()
	r.take('>')
	to := r.takeNumber()
	r.take(' ')
	label, num := r.takeProps()
	r.take(']')
	return Edge{From: from, To: to, Label: label, Num: num}
}
