package tests

import (
	"math"
	"slices"
	"strings"
	"testing"

	"loop.example/graphpatterns/impl"
)

// round has edges that lead around, and one from a node to itself.
const round = "(a 1)(b 2)(a 3)[0>1 r 3][1>2 r 1][2>0 s 5][2>2 t 0]"

// The plain functions are written without chapter 6, by the document, for
// testing it.

// plainWays returns the binds of each way in which a valid walk fits a valid
// pattern, in no order, and as often as there are ways.
func plainWays(g impl.Graph, p impl.Pat, w impl.Walk) []map[string]impl.Bind {
	switch p.Op {
	case impl.PatElem:
		return plainElemWays(g, p.Elem, w)
	case impl.PatSeq:
		return plainSeqWays(g, p.Kids, w)
	case impl.PatAlt:
		var list []map[string]impl.Bind
		for _, kid := range p.Kids {
			list = append(list, plainWays(g, kid, w)...)
		}
		return list
	}
	var list []map[string]impl.Bind
	for count := p.Lo; count <= max(p.Lo, len(w.Edges)) && (p.Hi == -1 || count <= p.Hi); count++ {
		list = append(list, plainRepWays(g, p.Kids[0], count, w)...)
	}
	return list
}

func plainElemWays(g impl.Graph, e impl.Elem, w impl.Walk) []map[string]impl.Bind {
	id := w.Nodes[0]
	if e.Node {
		if len(w.Edges) != 0 || !plainFits(g.Nodes[id].Label, g.Nodes[id].Num, e) {
			return nil
		}
	} else {
		if len(w.Edges) != 1 || !slices.Contains(plainHops(g, id, e), impl.Hop{Edge: w.Edges[0], To: w.Nodes[1]}) {
			return nil
		}
		id = w.Edges[0]
	}
	if e.Var == "" {
		return []map[string]impl.Bind{{}}
	}
	return []map[string]impl.Bind{{e.Var: {Var: e.Var, Ids: []int{id}}}}
}

// cutWalk returns a walk up to a place, and from it.
func cutWalk(w impl.Walk, place int) (impl.Walk, impl.Walk) {
	return impl.Walk{Nodes: w.Nodes[:place+1], Edges: w.Edges[:place]}, impl.Walk{Nodes: w.Nodes[place:], Edges: w.Edges[place:]}
}

func plainSeqWays(g impl.Graph, kids []impl.Pat, w impl.Walk) []map[string]impl.Bind {
	if len(kids) == 1 {
		return plainWays(g, kids[0], w)
	}
	var list []map[string]impl.Bind
	for place := range w.Nodes {
		front, behind := cutWalk(w, place)
		for _, a := range plainWays(g, kids[0], front) {
			for _, b := range plainSeqWays(g, kids[1:], behind) {
				joined, same := map[string]impl.Bind{}, true
				for name, bind := range a {
					joined[name] = bind
				}
				for name, bind := range b {
					known, ok := a[name]
					same = same && (!ok || slices.Equal(known.Ids, bind.Ids))
					joined[name] = bind
				}
				if same {
					list = append(list, joined)
				}
			}
		}
	}
	return list
}

func plainRepWays(g impl.Graph, part impl.Pat, count int, w impl.Walk) []map[string]impl.Bind {
	none := map[string]impl.Bind{}
	for _, p := range partsOf(part) {
		if name := p.Elem.Var; name != "" {
			none[name] = impl.Bind{Var: name, Group: true}
		}
	}
	if count == 0 && len(w.Edges) == 0 {
		return []map[string]impl.Bind{none}
	}
	var list []map[string]impl.Bind
	for place := 0; place < len(w.Nodes) && count > 0; place++ {
		front, behind := cutWalk(w, place)
		for _, a := range plainWays(g, part, front) {
			for _, b := range plainRepWays(g, part, count-1, behind) {
				joined := map[string]impl.Bind{}
				for name := range none {
					joined[name] = impl.Bind{Var: name, Ids: slices.Concat(a[name].Ids, b[name].Ids), Group: true}
				}
				list = append(list, joined)
			}
		}
	}
	return list
}

// plainBindsBefore reports whether binds are in front of others, in the order
// of matches.
func plainBindsBefore(a []impl.Bind, b []impl.Bind) bool {
	for i := range min(len(a), len(b)) {
		if a[i].Var != b[i].Var {
			return a[i].Var < b[i].Var
		}
		if !slices.Equal(a[i].Ids, b[i].Ids) {
			return plainListBefore(a[i].Ids, b[i].Ids)
		}
	}
	return len(a) < len(b)
}

func plainMatchText(m impl.Match) string {
	text := plainText(m.Walk)
	for _, bind := range m.Binds {
		var ids []string
		for _, id := range bind.Ids {
			ids = append(ids, number(id))
		}
		text += " " + bind.Var + "=" + strings.Join(ids, ",")
		if bind.Group {
			text += ";"
		}
	}
	return text
}

// plainMatches returns the matches of a valid pattern with these walks.
func plainMatches(g impl.Graph, p impl.Pat, walks []impl.Walk) []impl.Match {
	var list []impl.Match
	texts := map[string]bool{}
	for _, w := range walks {
		for _, way := range plainWays(g, p, w) {
			m := impl.Match{Walk: w}
			for _, bind := range way {
				m.Binds = append(m.Binds, bind)
			}
			slices.SortFunc(m.Binds, func(a, b impl.Bind) int { return strings.Compare(a.Var, b.Var) })
			if text := plainMatchText(m); !texts[text] {
				texts[text] = true
				list = append(list, m)
			}
		}
	}
	slices.SortFunc(list, func(a, b impl.Match) int {
		if plainBefore(a.Walk, b.Walk) || plainWalkSame(a.Walk, b.Walk) && plainBindsBefore(a.Binds, b.Binds) {
			return -1
		}
		return 1
	})
	return list
}

// matchesOfMode returns the matches of a list whose walks are of a mode and have
// at most so many edges.
func matchesOfMode(list []impl.Match, mode int, most int) []impl.Match {
	return slices.DeleteFunc(slices.Clone(list), func(m impl.Match) bool { return !plainMode(m.Walk, mode) || len(m.Walk.Edges) > most })
}

func plainMatchSame(a impl.Match, b impl.Match) bool {
	return plainWalkSame(a.Walk, b.Walk) && slices.EqualFunc(a.Binds, b.Binds, plainBindSame)
}

func plainBindSame(a impl.Bind, b impl.Bind) bool {
	return a.Var == b.Var && slices.Equal(a.Ids, b.Ids) && a.Group == b.Group
}

// textsOf returns the texts of matches.
func textsOf(list []impl.Match) []string {
	var texts []string
	for _, m := range list {
		texts = append(texts, plainMatchText(m))
	}
	return texts
}

// checkMatches fails unless all functions of the chapter find these matches of
// a pattern, with walks of a mode and at most some edges.
func checkMatches(t *testing.T, g impl.Graph, p impl.Pat, mode int, most int, want []impl.Match) {
	t.Helper()
	if len(want) > 400 {
		expectNoMatches(t, impl.FormatPat(p), g, p, mode, most)
		return
	}
	list, ok := impl.MatchesOf(g, p, mode, most)
	if !ok || !slices.EqualFunc(list, want, plainMatchSame) {
		t.Fatalf("MatchesOf(%s, %s, %d, %d) = %q, %v, not %q", impl.FormatGraph(g), impl.FormatPat(p), mode, most, textsOf(list), ok, textsOf(want))
	}
	var walks []impl.Walk
	var ends [][]int
	for _, m := range want {
		if w := m.Walk; len(walks) == 0 || !plainWalkSame(walks[len(walks)-1], w) {
			walks = append(walks, w)
			ends = append(ends, []int{w.Nodes[0], w.Nodes[len(w.Edges)]})
		}
	}
	slices.SortFunc(ends, slices.Compare[[]int])
	ends = slices.CompactFunc(ends, slices.Equal[[]int])
	if got, ok := impl.WalksOf(g, p, mode, most); !ok || !slices.EqualFunc(got, walks, plainWalkSame) {
		t.Fatalf("WalksOf(%s, %d, %d) = %v, %v, not %v", impl.FormatPat(p), mode, most, got, ok, walks)
	}
	if got, ok := impl.EndsOf(g, p, mode, most); !ok || !slices.EqualFunc(got, ends, slices.Equal[[]int]) {
		t.Fatalf("EndsOf(%s, %d, %d) = %v, %v, not %v", impl.FormatPat(p), mode, most, got, ok, ends)
	}
}

// expectNoMatches fails unless MatchesOf, WalksOf and EndsOf return nothing, and
// false.
func expectNoMatches(t *testing.T, what string, g impl.Graph, p impl.Pat, mode int, most int) {
	t.Helper()
	if list, ok := impl.MatchesOf(g, p, mode, most); ok || len(list) != 0 {
		t.Errorf("MatchesOf of %.80s, %d and %d = %d matches, %v", what, mode, most, len(list), ok)
	}
	if list, ok := impl.WalksOf(g, p, mode, most); ok || len(list) != 0 {
		t.Errorf("WalksOf of %.80s, %d and %d = %d walks, %v", what, mode, most, len(list), ok)
	}
	if list, ok := impl.EndsOf(g, p, mode, most); ok || len(list) != 0 {
		t.Errorf("EndsOf of %.80s, %d and %d = %d pairs, %v", what, mode, most, len(list), ok)
	}
}

// expectMatches fails unless the pattern with a text has the matches with these
// texts.
func expectMatches(t *testing.T, graph string, text string, mode int, most int, want ...string) {
	t.Helper()
	list, ok := impl.MatchesOf(parsed(t, graph), patOf(t, text), mode, most)
	if got := textsOf(list); !ok || !slices.Equal(got, want) {
		t.Errorf("MatchesOf(%s, %s, %d, %d) = %q, %v, not %q", graph, text, mode, most, got, ok, want)
	}
}

func TestMatchesOfElements(t *testing.T) {
	expectMatches(t, round, "()", 1, 4, "0", "1", "2")
	expectMatches(t, round, "(x)", 1, 0, "0 x=0", "1 x=1", "2 x=2")
	expectMatches(t, round, "(x:a)", 1, 4, "0 x=0", "2 x=2")
	expectMatches(t, round, "(x:a?>1)", 1, 0, "2 x=2")
	expectMatches(t, round, "(:c)", 1, 4)
	expectMatches(t, round, "-[]->", 1, 1, "0-0-1", "1-1-2", "2-2-0", "2-3-2")
	expectMatches(t, round, "-[e]->", 1, 4, "0-0-1 e=0", "1-1-2 e=1", "2-2-0 e=2", "2-3-2 e=3")
	expectMatches(t, round, "<-[e]-", 1, 1, "0-2-2 e=2", "1-0-0 e=0", "2-1-1 e=1", "2-3-2 e=3")
	expectMatches(t, round, "-[e]-", 1, 1, "0-0-1 e=0", "0-2-2 e=2", "1-0-0 e=0", "1-1-2 e=1", "2-2-0 e=2", "2-1-1 e=1", "2-3-2 e=3")
	expectMatches(t, round, "-[e:r]->", 1, 1, "0-0-1 e=0", "1-1-2 e=1")
	expectMatches(t, round, "-[e:r?<3]-", 1, 1, "1-1-2 e=1", "2-1-1 e=1")
	expectMatches(t, round, "-[e]->", 1, 0)
	expectMatches(t, "(a 1)", "-[]-", 1, 4)
	expectMatches(t, "(a 1)(b 2)[0>1 r 3]", "(x:a){-[e]->}+(y)", 1, 4, "0-0-1 e=0; x=0 y=1")
}

func TestMatchesOfSequences(t *testing.T) {
	expectMatches(t, round, "(x)-[e:r]->(y)", 1, 1, "0-0-1 e=0 x=0 y=1", "1-1-2 e=1 x=1 y=2")
	expectMatches(t, round, "-[e]->-[f]->", 1, 2, "0-0-1-1-2 e=0 f=1", "1-1-2-2-0 e=1 f=2", "1-1-2-3-2 e=1 f=3", "2-2-0-0-1 e=2 f=0", "2-3-2-2-0 e=3 f=2", "2-3-2-3-2 e=3 f=3")
	expectMatches(t, round, "-[e]->-[f]->", 1, 1)
	expectMatches(t, round, "(:a)(x)(?<3)", 1, 4, "0 x=0")
	expectMatches(t, round, "(x)(y)", 1, 4, "0 x=0 y=0", "1 x=1 y=1", "2 x=2 y=2")
	// The order of binds is that of names by bytes, however they stand.
	expectMatches(t, round, "(zz)-[b]->(z)<-[aa]-(a)", 3, 4)
	expectMatches(t, round, "(zz:b)-[b]->(z)<-[aa]-(a)", 1, 4, "1-1-2-1-1 a=1 aa=1 b=1 z=2 zz=1", "1-1-2-3-2 a=2 aa=3 b=1 z=2 zz=1")
}

// A variable that is bound twice is bound to the same.
func TestMatchesOfVariablesThatAreBoundTwice(t *testing.T) {
	expectMatches(t, round, "(x)-[e]->(x)", 1, 4, "2-3-2 e=3 x=2")
	expectMatches(t, round, "(x)(x)", 1, 4, "0 x=0", "1 x=1", "2 x=2")
	expectMatches(t, round, "(x:a)(x:b)", 1, 4)
	expectMatches(t, round, "(x:a)(x?<3)(x)", 1, 4, "0 x=0")
	expectMatches(t, round, "-[e]-(x)-[e]-", 1, 2, "0-0-1-0-0 e=0 x=1", "0-2-2-2-0 e=2 x=2", "1-0-0-0-1 e=0 x=0", "1-1-2-1-1 e=1 x=2", "2-2-0-2-2 e=2 x=0", "2-1-1-1-2 e=1 x=1", "2-3-2-3-2 e=3 x=2")
	expectMatches(t, round, "-[e]->-[e]->", 1, 2, "2-3-2-3-2 e=3")
	expectMatches(t, round, "(x:b)-[]->()-[]->()-[]->(x)", 4, 4, "1-1-2-2-0-0-1 x=1")
	expectMatches(t, round, "(x)-[]->()-[]->()-[]->(x)", 3, 4)
	expectMatches(t, round, "(x){-[e:r|s]->}+(x)", 1, 3, "0-0-1-1-2-2-0 e=0,1,2; x=0", "1-1-2-2-0-0-1 e=1,2,0; x=1", "2-2-0-0-1-1-2 e=2,0,1; x=2")
	expectMatches(t, round, "{(x)|-[e]->}{(x)|-[e]->}", 1, 2, "0 x=0", "1 x=1", "2 x=2",
		"0-0-1 e=0 x=0", "0-0-1 e=0 x=1", "1-1-2 e=1 x=1", "1-1-2 e=1 x=2", "2-2-0 e=2 x=0", "2-2-0 e=2 x=2", "2-3-2 e=3 x=2", "2-3-2-3-2 e=3")
	// Within a repetition, it is bound to the same each time, but not in all of them.
	expectMatches(t, round, "(:b){-[e]-(n)-[e]-(n)}+", 1, 4)
	expectMatches(t, round, "(:b){(n)-[e]-()-[e]-(n)}+", 1, 4, "1-0-0-0-1 e=0; n=1;", "1-1-2-1-1 e=1; n=1;",
		"1-0-0-0-1-0-0-0-1 e=0,0; n=1,1;", "1-0-0-0-1-1-2-1-1 e=0,1; n=1,1;", "1-1-2-1-1-0-0-0-1 e=1,0; n=1,1;", "1-1-2-1-1-1-2-1-1 e=1,1; n=1,1;")
}

func TestMatchesOfChoices(t *testing.T) {
	expectMatches(t, round, "{(x:b)-[]->|(x:b)<-[]-}(y)", 1, 1, "1-0-0 x=1 y=0", "1-1-2 x=1 y=2")
	expectMatches(t, round, "{-[x:r]->|-[y:r]->}", 1, 1, "0-0-1 x=0", "0-0-1 y=0", "1-1-2 x=1", "1-1-2 y=1")
	expectMatches(t, round, "{-[y:r]->|-[x:r]->|-[:r]->}", 1, 1, "0-0-1", "0-0-1 x=0", "0-0-1 y=0", "1-1-2", "1-1-2 x=1", "1-1-2 y=1")
	expectMatches(t, round, "{(:b)|(:b)-[e]->}", 1, 1, "1", "1-1-2 e=1")
	// Only the binds of the part that is chosen are there: x is free in the other one.
	expectMatches(t, round, "{(x:a)|(:a?>1)}-[]->(x:b)", 1, 1)
	expectMatches(t, round, "{(x:b)|()}-[]->(x:a)", 1, 1, "1-1-2 x=2", "2-2-0 x=0", "2-3-2 x=2")
	expectMatches(t, round, "{(x:b)-[e]->|(y:b)}{(z)|-[e]->(y)}", 1, 2, "1 y=1 z=1", "1-1-2 e=1 x=1 z=2")
	expectMatches(t, round, "{(x)(y)|(y)(z)|(x)(z)}(:b)", 1, 0, "1 x=1 y=1", "1 x=1 z=1", "1 y=1 z=1")
	expectMatches(t, round, "{(b)|(a)(b)|(a)|(a)(c)|(c)}(:b)", 1, 0, "1 a=1", "1 a=1 b=1", "1 a=1 c=1", "1 b=1", "1 c=1")
}

func TestMatchesOfRepetitions(t *testing.T) {
	expectMatches(t, round, "{-[e]->(n)}^2,2", 2, 4, "0-0-1-1-2 e=0,1; n=1,2;", "1-1-2-2-0 e=1,2; n=2,0;", "1-1-2-3-2 e=1,3; n=2,2;", "2-2-0-0-1 e=2,0; n=0,1;", "2-3-2-2-0 e=3,2; n=2,0;")
	expectMatches(t, round, "{-[e:r]->}+", 1, 4, "0-0-1 e=0;", "1-1-2 e=1;", "0-0-1-1-2 e=0,1;")
	expectMatches(t, round, "(:b){-[e]->}^1,2", 1, 4, "1-1-2 e=1;", "1-1-2-2-0 e=1,2;", "1-1-2-3-2 e=1,3;")
	expectMatches(t, round, "(:b){-[e]->}^3,", 1, 3, "1-1-2-2-0-0-1 e=1,2,0;", "1-1-2-3-2-2-0 e=1,3,2;", "1-1-2-3-2-3-2 e=1,3,3;")
	expectMatches(t, round, "{-[e:t]->}^4,4", 1, 4, "2-3-2-3-2-3-2-3-2 e=3,3,3,3;")
	expectMatches(t, round, "{-[e:t]->}^4,4", 1, 3)
	expectMatches(t, round, "{-[e:t]->}^5,5", 1, 4)
	expectMatches(t, round, "{-[]->}^9,9", 1, 4)
	expectMatches(t, round, "{-[]->}^5,", 1, 4)
	expectMatches(t, round, "{-[e:t]->}^1,1", 1, 4, "2-3-2 e=3;")
	expectMatches(t, round, "(:b){-[e]->-[f]->}+", 1, 4, "1-1-2-2-0 e=1; f=2;", "1-1-2-3-2 e=1; f=3;",
		"1-1-2-2-0-0-1-1-2 e=1,0; f=2,1;", "1-1-2-3-2-2-0-0-1 e=1,2; f=3,0;", "1-1-2-3-2-3-2-2-0 e=1,3; f=3,2;", "1-1-2-3-2-3-2-3-2 e=1,3; f=3,3;")
}

// By none of its part, a repetition is fitted by a walk of one node, with empty
// groups.
func TestMatchesOfRepetitionsOfNoTimes(t *testing.T) {
	expectMatches(t, round, "{-[e]->(n)}*", 1, 0, "0 e=; n=;", "1 e=; n=;", "2 e=; n=;")
	expectMatches(t, round, "{-[e]->}?", 3, 4, "0 e=;", "1 e=;", "2 e=;", "0-0-1 e=0;", "1-1-2 e=1;", "2-2-0 e=2;")
	expectMatches(t, round, "(x){-[e:r]->}*(y:a)", 1, 4, "0 e=; x=0 y=0", "2 e=; x=2 y=2", "1-1-2 e=1; x=1 y=2", "0-0-1-1-2 e=0,1; x=0 y=2")
	expectMatches(t, round, "(x:b){-[e]->}?(x)", 1, 4, "1 e=; x=1")
	expectMatches(t, round, "(x){-[e]->}^0,9(x)", 1, 1, "0 e=; x=0", "1 e=; x=1", "2 e=; x=2", "2-3-2 e=3; x=2")
	expectMatches(t, round, "(x:b){-[:r]->}*{-[e:s]->}?", 1, 4, "1 e=; x=1", "1-1-2 e=; x=1", "1-1-2-2-0 e=2; x=1")
	expectMatches(t, "(a 1)", "{-[]->}*", 1, 4, "0")
	expectMatches(t, "(a 1)", "{-[]->}+", 1, 4)
	expectMatches(t, "(a 1)", "{{-[f]->-[e]->}^2,}?(x)", 1, 4, "0 e=; f=; x=0")
}

func TestMatchesOfRepetitionsWithinOthers(t *testing.T) {
	// A variable that is bound in some of the times only has the Ids of these.
	expectMatches(t, round, "(:b){-[e:r]->|-[f:s|t]->(n)}^2,2", 1, 4, "1-1-2-2-0 e=1; f=2; n=0;", "1-1-2-3-2 e=1; f=3; n=2;")
	expectMatches(t, round, "(:b){-[e]->|-[f]->}^2,2(?<3)", 1, 4, "1-1-2-2-0 e=; f=1,2;", "1-1-2-2-0 e=1; f=2;", "1-1-2-2-0 e=1,2; f=;", "1-1-2-2-0 e=2; f=1;")
	// One outside of all times has no bind in a choice without it.
	expectMatches(t, round, "(:b){-[]->|{-[e]->}+|{-[f]->}*}", 1, 1, "1 f=;", "1-1-2", "1-1-2 e=1;", "1-1-2 f=1;")
	// In a repetition, it has an empty group, whether its own one is empty or not there.
	expectMatches(t, round, "(:b){-[]->|-[]->{-[f]->}^2,}+", 1, 1, "1-1-2 f=;")
	expectMatches(t, round, "(:b){-[:r]->|-[:r]->{-[f:s]->}*}+", 1, 3, "1-1-2 f=;", "1-1-2-2-0 f=2;", "1-1-2-2-0-0-1 f=2;")
	expectMatches(t, round, "(:b){{-[e]->}^1,2}^2,2", 1, 2, "1-1-2-2-0 e=1,2;", "1-1-2-3-2 e=1,3;")
	expectMatches(t, round, "(:b){-[:r]->{-[e:t]->(m)}*(n)}+", 1, 3, "1-1-2 e=; m=; n=2;", "1-1-2-3-2 e=3; m=2; n=2;", "1-1-2-3-2-3-2 e=3,3; m=2,2; n=2;")
}

// A walk that fits in several ways is in one match for each kind of binds.
func TestMatchesOfWalksThatFitInSeveralWays(t *testing.T) {
	expectMatches(t, round, "{{-[e]->}+}+", 1, 2, "0-0-1 e=0;", "1-1-2 e=1;", "2-2-0 e=2;", "2-3-2 e=3;",
		"0-0-1-1-2 e=0,1;", "1-1-2-2-0 e=1,2;", "1-1-2-3-2 e=1,3;", "2-2-0-0-1 e=2,0;", "2-3-2-2-0 e=3,2;", "2-3-2-3-2 e=3,3;")
	expectMatches(t, round, "{(x:b)|(x)}{()|()}{(:b)|(?<3)}", 1, 0, "0 x=0", "1 x=1")
	expectMatches(t, round, "{-[]->}*{-[]->}*(:b){<-[]-}*{()|()}", 4, 1, "1", "0-0-1", "1-0-0")
	expectMatches(t, round, "(:b){-[e]->}*(x){-[f]->}*(:a?<3)", 1, 2, "1-1-2-2-0 e=; f=1,2; x=1", "1-1-2-2-0 e=1; f=2; x=2", "1-1-2-2-0 e=1,2; f=; x=0")
	expectMatches(t, round, "(:b){-[]->}*(x){-[]->}*(:a?<3)", 1, 2, "1-1-2-2-0 x=0", "1-1-2-2-0 x=1", "1-1-2-2-0 x=2")
	expectMatches(t, "(a 1)[0>0 r 1][0>0 s 1]", "{-[e]->|-[e:r]-|<-[f:r]-}", 1, 1, "0-0-0 e=0", "0-0-0 f=0", "0-1-0 e=1")
	expectMatches(t, "(a 1)[0>0 r 1]", "{-[e]->}*(x){-[f]->}*(x)", 1, 2, "0 e=; f=; x=0", "0-0-0 e=; f=0; x=0", "0-0-0 e=0; f=; x=0",
		"0-0-0-0-0 e=; f=0,0; x=0", "0-0-0-0-0 e=0; f=0; x=0", "0-0-0-0-0 e=0,0; f=; x=0")
}

func TestMatchesOfModes(t *testing.T) {
	const both = "(a 1)(b 2)[0>1 r 1][1>0 r 2][1>1 r 3]"
	edges := []string{"0-0-1", "1-1-0", "1-2-1"}
	walks := []string{"0-0-1-1-0", "0-0-1-2-1", "1-1-0-0-1", "1-2-1-1-0", "1-2-1-2-1"}
	expectMatches(t, both, "{-[]->}^1,2", 1, 4, append(slices.Clone(edges), walks...)...)
	expectMatches(t, both, "{-[]->}^1,2", 2, 4, append(slices.Clone(edges), walks[:4]...)...)
	expectMatches(t, both, "{-[]->}^1,2", 3, 4, edges[:2]...)
	expectMatches(t, both, "{-[]->}^1,2", 4, 4, append(slices.Clone(edges), walks[0], walks[2])...)
	expectMatches(t, both, "{-[]-}^2,2(:a)", 4, 4, "0-0-1-0-0", "0-0-1-1-0", "0-1-1-0-0", "0-1-1-1-0")
	expectMatches(t, both, "{-[]-}^2,2(:a)", 2, 4, "0-0-1-1-0", "0-1-1-0-0", "1-2-1-0-0", "1-2-1-1-0")
	for mode := 1; mode <= 4; mode++ {
		expectMatches(t, both, "(x:b)", mode, 4, "1 x=1")
		expectMatches(t, both, "(x:c)", mode, 4)
	}
}

// Promise 6: all small patterns have the matches that the document says, with
// walks of each mode.
func TestMatchesOfAllSmallPats(t *testing.T) {
	labelled, left := one(impl.Elem{Node: true, Var: "y", Labels: atom("a")}), one(impl.Elem{Var: "e", Cond: atom("<4"), Dir: impl.DirLeft})
	lists := append(patsOfSize(4, []impl.Pat{node("x"), labelled, edge("e"), edge("f"), left}, [][2]int{{0, -1}, {1, 2}, {2, 2}}), patsOfSize(5, []impl.Pat{node("x"), left, anEdge}, [][2]int{{0, 1}, {1, -1}})...)
	count, found := 0, 0
	for i, text := range []string{round, crossing} {
		g := parsed(t, text)
		walks := walksIn(t, g, 3)
		for _, p := range slices.Concat(lists...) {
			if !plainPatValid(p) {
				continue
			}
			count++
			list := plainMatches(g, p, walks)
			found += len(list)
			most, mode := 2+count%2, 2+(count+i)%3
			checkMatches(t, g, p, 1, most, matchesOfMode(list, 1, most))
			checkMatches(t, g, p, mode, 3, matchesOfMode(list, mode, 3))
		}
	}
	if count < 1500 || found < 10000 {
		t.Errorf("%d patterns have only %d matches", count, found)
	}
}

// Promise 6, for patterns of all kinds within each other, and each number of
// edges.
func TestMatchesOfManyPats(t *testing.T) {
	var pats []impl.Pat
	for _, x := range patsWithTexts() {
		pats = append(pats, x.p)
	}
	for _, text := range []string{
		"{-[e]->|-[f]-(n)}+", "(x){-[e]-(n)}*(y)<-[]-(x)", "{{-[e]->(n)|<-[f]-}+(m)}^1,2", "{(x)|-[e]-(y)|(x)-[e]->}{(y)|<-[f]-(x)}", "{{-[e]->}^2,|-[f]-(n)(n)}*", "{-[:r]->|-[]->{-[f]->}*}+{<-[g]-}?",
		"{(x)-[e]-|(y)-[f]-|(x)-[f]-|-[e]-(y)}^1,3", "(x){(n)-[e]->(n)}*(x){<-[f]-}?", "{(:a)|(x)}{-[e]-()-[e]-}?{(x)|()}", "{{{-[e]-}?-[]->(n)}+(m)|<-[f]-}^2,3",
	} {
		pats = append(pats, patOf(t, text))
	}
	for _, text := range []string{round, "(a 4)(b 5)[0>1 a 3][1>0 b 4][0>0 a 1]", "(a 1)"} {
		g := parsed(t, text)
		walks := walksIn(t, g, 4)
		for i, p := range pats {
			list := plainMatches(g, p, walks)
			for most := range 5 {
				checkMatches(t, g, p, 1, most, matchesOfMode(list, 1, most))
				mode := 2 + (i+most)%3
				checkMatches(t, g, p, mode, most, matchesOfMode(list, mode, most))
			}
		}
	}
}

// manyWays is a pattern with 40 matches for each edge with the label r, and one
// for each edge with another one.
const manyWays = "{-[:r]->{(a)|(b)|(c)|(d)|(e)}{(f)|(g)|(h)|(i)|(j)|(k)|(l)|(m)}|-[:!r]->}"

// labelledEdges returns a graph with two nodes, and edges from the first one to
// the second one, so many with the label r, and so many with s.
func labelledEdges(r int, s int) impl.Graph {
	g := impl.Graph{Nodes: make([]impl.Node, 2)}
	for i := range r + s {
		g.Edges = append(g.Edges, impl.Edge{From: 0, To: 1, Label: "r"})
		if i >= r {
			g.Edges[i].Label = "s"
		}
	}
	return g
}

func TestMatchesOfAtMostMaxMatch(t *testing.T) {
	for r := range 12 {
		for s := range 3 {
			g, p := labelledEdges(r, s), patOf(t, manyWays)
			for most := 1; most <= 4; most++ {
				list, ok := impl.MatchesOf(g, p, 1+r%4, most)
				walks, ok2 := impl.WalksOf(g, p, 1+s, most)
				ends, ok3 := impl.EndsOf(g, p, 1, most)
				want := 40*r+s <= 400
				if want && (len(list) != 40*r+s || len(walks) != r+s || len(ends) != min(1, r+s)) || ok != want || ok2 != want || ok3 != want {
					t.Errorf("%d and %d edges have %d matches, %v, with %d walks, %v, and %d ends, %v", r, s, len(list), ok, len(walks), ok2, len(ends), ok3)
				}
				if !want {
					expectNoMatches(t, manyWays, g, p, 1, most)
				}
			}
			checkMatches(t, g, p, 1, 0, nil)
		}
	}
	if impl.MaxMatch != 400 || impl.MaxWalk != 4 {
		t.Errorf("the limits are %d and %d", impl.MaxMatch, impl.MaxWalk)
	}
}

// Matches count only if their walks are of the mode, and not too long; and each
// of them counts once, in however many ways its walk fits.
func TestOtherMatchesDoNotCount(t *testing.T) {
	g := sized(1, 14)
	for _, x := range []struct {
		text       string
		mode, most int
		want       int
	}{
		{"{-[]->}*", 1, 0, 1}, {"{-[]->}*", 1, 1, 15}, {"{-[]->}*", 1, 2, 211}, {"{-[]->}*", 1, 3, -1}, {"{-[]->}*", 1, 4, -1},
		{"{-[]->}*", 2, 2, 197}, {"{-[]->}*", 2, 3, -1}, {"{-[]->}*", 3, 4, 1}, {"{-[]->}*", 4, 4, 15}, {"{-[]->}^3,", 4, 4, 0}, {"{-[]->}^4,4", 1, 3, 0}, {"{-[]->}^4,4", 1, 4, -1},
		{"{()|()|()}{()|()|()}{()|()|()}{()|()|()}", 1, 4, 1}, {"{-[]->|<-[]-|-[]-}{-[]->|<-[]-|-[]-}", 1, 4, 196}, {"{-[e]->|<-[e]-|-[e]-}{-[e]->|<-[e]-|-[e]-}", 1, 4, 14},
		{"{-[]->|<-[]-|-[]-}{()|()|()}{()|()|()}", 1, 4, 14}, {"{{{-[e]->}+}+}+", 1, 2, 210}, {"{-[e]->}*{-[]->}*", 1, 2, 435 + 196}, {"{-[e]->}*{-[]->}*", 1, 1, 29},
	} {
		if x.want > 400 {
			x.want = -1
		}
		list, ok := impl.MatchesOf(g, patOf(t, x.text), x.mode, x.most)
		if ok != (x.want >= 0) || len(list) != max(0, x.want) {
			t.Errorf("MatchesOf(%s, %d, %d) with 14 edges = %d matches, %v, not %d", x.text, x.mode, x.most, len(list), ok, x.want)
		}
	}
}

// A pattern can fit in very many ways that come to few matches, or to too many;
// those that come to none do not count.
func TestMatchesOfPatternsWithManyWays(t *testing.T) {
	line := sized(8, 14)
	for i := range line.Edges {
		line.Edges[i] = impl.Edge{From: i / 2, To: i/2 + 1}
	}
	const choices = "{(a)|(b)}{(c)|(d)}{(e)|(f)}{(g)|(h)}"
	for _, g := range []impl.Graph{sized(1, 1), line} {
		walks := walksIn(t, g, 4)
		for _, x := range [][2]string{
			{"{-[]->" + strings.Repeat("{()|()}", 6) + "}^4,4", "-[]->-[]->-[]->-[]->"},
			{"{-[]->" + choices + "}^4,4(:a)", "-[]->(:a)"},
			{"(x){-[]-" + choices + "}^3,3(x?>0)", "-[]-(?>0)"},
			{"{{-[]->" + choices + "}^4,4(:a)|(x)-[]->{-[]->}^3,3}", "(x)-[]->-[]->-[]->-[]->"},
			{"{-[]->" + choices + "}*{-[]->}^4,4", "{-[:a]->" + choices + "}?-[]->-[]->-[]->-[]->"},
			{"{{{{{{{{-[]->}+}+}+}+}+}+}+}+", "{-[]->}+"},
			{"{{{{{{{{-[e]->}+}+}+}+}+}+}+}+", "{-[e]->}+"},
			{strings.Repeat("{-[]->}*", 11), "{-[]->}*"},
			{"{{()|()}{()|()}-[]->|{()|()}{()|()}-[]->}+", "{-[]->}+"},
		} {
			checkMatches(t, g, patOf(t, x[0]), 1, 4, plainMatches(g, patOf(t, x[1]), walks))
		}
		expectNoMatches(t, choices, g, patOf(t, "{-[]-"+choices+"{(i)|(j)}}^4,4"), 1, 4)
	}
}

func TestMatchesOfInvalidArguments(t *testing.T) {
	g, p := parsed(t, round), patOf(t, "(x){-[e]->}*")
	for mode := -2; mode <= 7; mode++ {
		for most := -2; most <= 7; most++ {
			_, ok := impl.MatchesOf(g, p, mode, most)
			if want := mode >= 1 && mode <= 4 && most >= 0 && most <= 4; ok != want {
				t.Errorf("MatchesOf of %d and %d = %v", mode, most, ok)
			}
			if !ok {
				expectNoMatches(t, round, g, p, mode, most)
			}
		}
	}
	for _, num := range []int{5, 8, 100, 256 + 1, 1<<32 + 1, math.MaxInt, math.MinInt, math.MinInt + 1} {
		expectNoMatches(t, round, g, p, num, 2)
		expectNoMatches(t, round, g, p, 1, num)
		expectNoMatches(t, "a pattern without matches", g, patOf(t, "(:c)"), 3, num)
	}
	for what, bad := range invalidGraphs() {
		for mode := 1; mode <= 4; mode++ {
			expectNoMatches(t, "a graph with "+what, bad, p, mode, 0)
			expectNoMatches(t, "a graph with "+what, bad, aNode, mode, 4)
			expectNoMatches(t, "a graph with "+what, bad, patOf(t, "(:c)"), mode, 1)
		}
	}
	for what, bad := range brokenPats() {
		expectNoMatches(t, what, g, bad, 1, 4)
		expectNoMatches(t, what, sized(1, 0), bad, 3, 0)
	}
}

func TestFitsWalk(t *testing.T) {
	for _, x := range []struct {
		text string
		w    impl.Walk
		want bool
	}{
		{"()", walkOf(0), true}, {"(x:a)", walkOf(2), true}, {"(:b)", walkOf(0), false}, {"()", walkOf(0, 0, 1), false}, {"()", walkOf(3), false}, {"()", walkOf(-1), false},
		{"-[]->", walkOf(0, 0, 1), true}, {"-[]->", walkOf(1, 0, 0), false}, {"<-[]-", walkOf(1, 0, 0), true}, {"<-[]-", walkOf(0, 0, 1), false}, {"-[]-", walkOf(1, 0, 0), true}, {"-[]->", walkOf(0), false},
		{"-[]-", walkOf(0, 1, 1), false}, {"-[]->", walkOf(0, 4, 1), false}, {"<-[]-", walkOf(2, 3, 2), true}, {"-[:s]->", walkOf(2, 3, 2), false}, {"-[]->-[]->", walkOf(0, 0, 1), false},
		{"(:a){-[:r]->}+(:a)", walkOf(0, 0, 1, 1, 2), true}, {"(:a){-[:r]->}+(:a)", walkOf(0, 0, 1), false}, {"(x)-[]->(x)", walkOf(2, 3, 2), true}, {"(x)-[]->(x)", walkOf(2, 2, 0), false},
		{"{(x)|()}-[]->(x)", walkOf(2, 2, 0), true}, {"{-[e]-()-[e]-}+", walkOf(0, 0, 1, 0, 0, 2, 2, 2, 0), true}, {"{-[e]-()-[e]-}+", walkOf(0, 0, 1, 0, 0, 2, 2, 3, 2), false}, {"-[e]-{-[]-}*-[e]-", walkOf(0, 0, 1, 0, 0, 2, 2, 2, 0), false},
		{"{-[]->}*", walkOf(1), true}, {"{-[]->}+", walkOf(1), false}, {"{-[]->}^3,4", walkOf(0, 0, 1, 1, 2), false}, {"{-[]->}^3,4", walkOf(0, 0, 1, 1, 2, 2, 0), true}, {"{-[]->}^1,2", walkOf(0, 0, 1, 1, 2, 2, 0), false},
		{"{-[:r]->|-[:s]->(:a?<3)}*", walkOf(0, 0, 1, 1, 2, 2, 0, 0, 1), true}, {"{-[:r]->|-[:s]->(:a?>2)}*", walkOf(0, 0, 1, 1, 2, 2, 0, 0, 1), false},
	} {
		if got := impl.FitsWalk(parsed(t, round), patOf(t, x.text), x.w); got != x.want {
			t.Errorf("FitsWalk of %s and %v = %v", x.text, x.w, got)
		}
	}
}

// Walks fit if they have at most MaxWalk edges, whatever their mode is, and
// however many matches there are.
func TestFitsWalkWithinLimits(t *testing.T) {
	g := sized(1, 14)
	for edges := range 10 {
		p := patOf(t, "{-[]->}*")
		if got := impl.FitsWalk(g, p, standing(edges)); got != (edges <= 4) {
			t.Errorf("FitsWalk with %d edges = %v", edges, got)
		}
		if edges > 0 && impl.FitsWalk(g, patOf(t, "{-[e]->}^"+number(edges)+",9"), standing(edges)) != (edges <= 4) {
			t.Errorf("FitsWalk with %d times is wrong", edges)
		}
	}
	if !impl.FitsWalk(labelledEdges(11, 3), patOf(t, manyWays), walkOf(0, 10, 1)) || !impl.FitsWalk(labelledEdges(11, 3), patOf(t, manyWays), walkOf(0, 13, 1)) {
		t.Error("FitsWalk is wrong for a pattern with more matches than MaxMatch")
	}
	const choices = "{(a)|(b)}{(c)|(d)}{(e)|(f)}{(g)|(h)}{(i)|(j)}"
	if !impl.FitsWalk(g, patOf(t, "{-[]-"+choices+"}^4,4"), standing(4)) || impl.FitsWalk(g, patOf(t, "{-[]-"+choices+"}^4,4(:a)"), standing(4)) {
		t.Error("FitsWalk is wrong for a walk with more matches than MaxMatch")
	}
}

func TestFitsWalkOfInvalidArguments(t *testing.T) {
	all := patOf(t, "{-[]-}*")
	for what, w := range misshapen() {
		if impl.FitsWalk(sized(1, 14), all, w) || impl.FitsWalk(sized(1, 1), aNode, w) {
			t.Errorf("FitsWalk accepts %s", what)
		}
	}
	for what, g := range invalidGraphs() {
		for _, w := range []impl.Walk{walkOf(0), walkOf(1), walkOf(0, 0, 0), walkOf(0, 0, 1), {}} {
			if impl.FitsWalk(g, all, w) || impl.FitsWalk(g, aNode, w) {
				t.Errorf("FitsWalk accepts %v in a graph with %s", w, what)
			}
		}
	}
	for what, p := range brokenPats() {
		for _, w := range []impl.Walk{walkOf(0), walkOf(0, 0, 1), walkOf(2, 3, 2), {}} {
			if impl.FitsWalk(parsed(t, round), p, w) {
				t.Errorf("FitsWalk accepts %.80s", what)
			}
		}
	}
}

// A walk fits a pattern if it is one of WalksOf, and not otherwise.
func TestFitsWalkOfAllWalks(t *testing.T) {
	g := parsed(t, round)
	for _, text := range []string{"(x)", "(:b){-[e]->}*", "(x){-[e]-}^1,3(x)", "{-[e]->|<-[f]-(n)}^2,4(:b)", "-[e]-(x:a){-[e]-|-[]->(x)}", "{-[:r]->{-[e:t]->}*(n)}+", "{-[]->}*(:b){<-[]-}*"} {
		p := patOf(t, text)
		for edges := range 4 {
			list, ok := impl.WalksOf(g, p, 1, edges)
			if !ok {
				t.Fatalf("WalksOf(%s, 1, %d) fails", text, edges)
			}
			for _, w := range allWalks(edges, []int{0, 1, 2}, []int{0, 1, 2, 3}) {
				want := slices.ContainsFunc(list, func(v impl.Walk) bool { return plainWalkSame(v, w) })
				if got := impl.FitsWalk(g, p, w); got != want {
					t.Errorf("FitsWalk of %s and %s = %v", text, plainText(w), got)
				}
			}
		}
	}
}

// Turned patterns have turned walks, with the same pairs of ends turned.
func TestTurnedPatternsHaveTurnedWalks(t *testing.T) {
	g := parsed(t, round)
	for _, x := range patsWithTexts() {
		turned, _ := impl.TurnPat(x.p)
		for mode := 1; mode <= 4; mode++ {
			list, ok := impl.WalksOf(g, x.p, mode, 3)
			other, ok2 := impl.WalksOf(g, turned, mode, 3)
			if ok != ok2 || len(list) != len(other) {
				t.Errorf("%s has %d walks, and turned %d", x.text, len(list), len(other))
			}
			for _, w := range other {
				if !slices.ContainsFunc(list, func(v impl.Walk) bool { return plainWalkSame(v, plainTurnedWalk(w)) }) || !impl.FitsWalk(g, x.p, plainTurnedWalk(w)) {
					t.Errorf("%s turned has the walk %s", x.text, plainText(w))
				}
			}
		}
	}
}

func TestEndsOf(t *testing.T) {
	for _, x := range []struct {
		text       string
		mode, most int
		want       [][]int
	}{
		{"{-[]->}+", 1, 2, [][]int{{0, 1}, {0, 2}, {1, 0}, {1, 2}, {2, 0}, {2, 1}, {2, 2}}},
		{"{-[]->}+", 1, 1, [][]int{{0, 1}, {1, 2}, {2, 0}, {2, 2}}},
		{"{-[]->}+", 3, 1, [][]int{{0, 1}, {1, 2}, {2, 0}}},
		{"{-[:r]->}*", 1, 4, [][]int{{0, 0}, {0, 1}, {0, 2}, {1, 1}, {1, 2}, {2, 2}}},
		{"{<-[]-(:b)|(x)|(y)}", 1, 4, [][]int{{0, 0}, {1, 1}, {2, 1}, {2, 2}}},
		{"(:b)-[e]-()-[f]-(:b)", 1, 4, [][]int{{1, 1}}},
		{"(:c)", 1, 4, nil},
	} {
		got, ok := impl.EndsOf(parsed(t, round), patOf(t, x.text), x.mode, x.most)
		if !ok || !slices.EqualFunc(got, x.want, slices.Equal[[]int]) {
			t.Errorf("EndsOf(%s, %d, %d) = %v, %v", x.text, x.mode, x.most, got, ok)
		}
	}
}

func TestWalksOf(t *testing.T) {
	for _, x := range []struct {
		text       string
		mode, most int
		want       []string
	}{
		{"{-[x]->|-[y]->}", 1, 1, []string{"0-0-1", "1-1-2", "2-2-0", "2-3-2"}},
		{"{(x)|(y)|(z)}", 1, 4, []string{"0", "1", "2"}},
		{"{-[e]->|(x)|-[f]->-[e]->}(:b)", 1, 2, []string{"1", "0-0-1", "2-2-0-0-1"}},
		{"{-[]->}+", 3, 2, []string{"0-0-1", "1-1-2", "2-2-0", "0-0-1-1-2", "1-1-2-2-0", "2-2-0-0-1"}},
		{"(:c)", 1, 4, nil},
	} {
		list, ok := impl.WalksOf(parsed(t, round), patOf(t, x.text), x.mode, x.most)
		var got []string
		for _, w := range list {
			got = append(got, plainText(w))
		}
		if !ok || !slices.Equal(got, x.want) {
			t.Errorf("WalksOf(%s, %d, %d) = %q, %v", x.text, x.mode, x.most, got, ok)
		}
	}
}

// oddMatches returns matches with their texts, most of which no pattern has.
func oddMatches() map[string]impl.Match {
	return map[string]impl.Match{
		"":                        {},
		"0":                       {Walk: walkOf(0)},
		"0-0-1 e=0; x=0 y=1":      {Walk: walkOf(0, 0, 1), Binds: []impl.Bind{{Var: "e", Ids: []int{0}, Group: true}, {Var: "x", Ids: []int{0}}, {Var: "y", Ids: []int{1}}}},
		"0 e=;":                   {Walk: walkOf(0), Binds: []impl.Bind{{Var: "e", Group: true}}},
		"0 e=":                    {Walk: walkOf(0), Binds: []impl.Bind{{Var: "e"}}},
		"0 e=0,1":                 {Walk: walkOf(0), Binds: []impl.Bind{{Var: "e", Ids: []int{0, 1}}}},
		"0 e=1,0":                 {Walk: walkOf(0), Binds: []impl.Bind{{Var: "e", Ids: []int{1, 0}}}},
		"0 e=0,1;":                {Walk: walkOf(0), Binds: []impl.Bind{{Var: "e", Ids: []int{0, 1}, Group: true}}},
		"0 y=1 x=2 y=3":           {Walk: walkOf(0), Binds: []impl.Bind{{Var: "y", Ids: []int{1}}, {Var: "x", Ids: []int{2}}, {Var: "y", Ids: []int{3}}}},
		"0 y=3 x=2 y=1":           {Walk: walkOf(0), Binds: []impl.Bind{{Var: "y", Ids: []int{3}}, {Var: "x", Ids: []int{2}}, {Var: "y", Ids: []int{1}}}},
		"0 =7":                    {Walk: walkOf(0), Binds: []impl.Bind{{Ids: []int{7}}}},
		"0 Ab c=;=-1,100":         {Walk: walkOf(0), Binds: []impl.Bind{{Var: "Ab c=;", Ids: []int{-1, 100}}}},
		"99-99-99":                {Walk: walkOf(99, 99, 99)},
		" x=5":                    {Walk: walkOf(100), Binds: []impl.Bind{{Var: "x", Ids: []int{5}}}},
		" x=5;":                   {Walk: impl.Walk{Nodes: []int{0, 1}}, Binds: []impl.Bind{{Var: "x", Ids: []int{5}, Group: true}}},
		" x=-9223372036854775808": {Binds: []impl.Bind{{Var: "x", Ids: []int{math.MinInt}}}},
		" \xff=":                  {Walk: walkOf(0, -1, 0), Binds: []impl.Bind{{Var: "\xff"}}},
		"5-1-5 =; =":              {Walk: walkOf(5, 1, 5), Binds: []impl.Bind{{Group: true}, {}}},
	}
}

func TestFormatMatch(t *testing.T) {
	for text, m := range oddMatches() {
		if got := impl.FormatMatch(m); got != text {
			t.Errorf("FormatMatch(%v) = %q, not %q", m, got, text)
		}
	}
	for what, w := range misshapen() {
		m := impl.Match{Walk: w, Binds: []impl.Bind{{Var: "x", Ids: []int{1, 2}}}}
		if got := impl.FormatMatch(m); got != " x=1,2" {
			t.Errorf("FormatMatch with %s = %q", what, got)
		}
	}
}

func TestMatchSame(t *testing.T) {
	again := oddMatches()
	for text, m := range oddMatches() {
		for other, n := range again {
			if got := impl.MatchSame(m, n); got != (text == other) {
				t.Errorf("MatchSame of %q and %q = %v", text, other, got)
			}
		}
	}
	for what, w := range misshapen() {
		for other, v := range misshapen() {
			if impl.MatchSame(impl.Match{Walk: w}, impl.Match{Walk: v}) != plainWalkSame(w, v) {
				t.Errorf("MatchSame is wrong for %s and %s", what, other)
			}
		}
	}
	base := impl.Match{Walk: walkOf(0), Binds: []impl.Bind{{Var: "e", Ids: []int{}}}}
	empty := impl.Match{Walk: impl.Walk{Nodes: []int{0}, Edges: []int{}}, Binds: []impl.Bind{{Var: "e"}}}
	if !impl.MatchSame(base, empty) || !impl.MatchSame(impl.Match{}, impl.Match{Binds: []impl.Bind{}}) {
		t.Error("MatchSame distinguishes nil and empty slices")
	}
}

func TestBindOf(t *testing.T) {
	for _, m := range oddMatches() {
		for _, name := range []string{"", "e", "x", "y", "z", "ee", "Ab c=;", "\xff", "abcdefgh"} {
			at := slices.IndexFunc(m.Binds, func(b impl.Bind) bool { return b.Var == name })
			got, ok := impl.BindOf(m, name)
			want := impl.Bind{}
			if at >= 0 {
				want = m.Binds[at]
			}
			if ok != (at >= 0) || !plainBindSame(got, want) {
				t.Errorf("BindOf(%v, %q) = %v, %v", m, name, got, ok)
			}
		}
	}
	list, _ := impl.MatchesOf(parsed(t, round), patOf(t, "(x){-[e]->}+(y)"), 1, 2)
	e, ok := impl.BindOf(list[4], "e")
	y, ok2 := impl.BindOf(list[4], "y")
	if !ok || !ok2 || !plainBindSame(e, impl.Bind{Var: "e", Ids: []int{0, 1}, Group: true}) || !plainBindSame(y, impl.Bind{Var: "y", Ids: []int{2}}) {
		t.Errorf("BindOf of %v = %v, %v and %v, %v", list[4], e, ok, y, ok2)
	}
}

// wipeMatch writes over a match, and over the memory behind its lists.
func wipeMatch(m impl.Match) {
	wipeWalk(m.Walk)
	binds := m.Binds[:cap(m.Binds)]
	for i := range binds {
		wipeList(binds[i].Ids)
		binds[i] = impl.Bind{Var: "wiped", Group: true}
	}
}

func TestMatchesShareNoMemory(t *testing.T) {
	for _, text := range []string{"(x)", "{(x)|(y)}{(z)|(y)}", "(x){-[e]->}*(y)", "{-[e]->(n)|-[f]->(m)}^1,2(x)", "(x){{-[e]->}+(n)}*", "{-[]->}*", "{-[]->|-[e]->}"} {
		g, p := parsed(t, round), patOf(t, text)
		list, ok := impl.MatchesOf(g, p, 1, 2)
		again, _ := impl.MatchesOf(g, p, 1, 2)
		want := textsOf(list)
		for i := range list {
			for j := range list[i].Binds {
				wipeList(list[i].Binds[j].Ids)
				list[i].Binds[j].Ids = slices.Clone(again[i].Binds[j].Ids)
				if !slices.Equal(textsOf(list), want) {
					t.Fatalf("Ids of %s share memory with another list of the result", want[i])
				}
			}
		}
		for i := range list {
			wipeList(list[i].Walk.Nodes)
			if !slices.Equal(list[i].Walk.Edges, again[i].Walk.Edges) {
				t.Errorf("both lists of the walk of %s share memory", want[i])
			}
			wipeMatch(list[i])
			if !slices.Equal(textsOf(list[i+1:]), want[i+1:]) {
				t.Fatalf("%s shares memory with another match of the result", want[i])
			}
		}
		if !ok || !slices.Equal(textsOf(again), want) || !impl.GraphSame(g, parsed(t, round)) || impl.FormatPat(p) != text {
			t.Errorf("MatchesOf(%s) shares memory with its arguments or another result", text)
		}
		checkMatches(t, g, p, 1, 2, again)
	}
}

func TestListsOfMatchesShareNoMemory(t *testing.T) {
	g, p := parsed(t, round), patOf(t, "{-[e]->|-[f]->}*")
	walks, _ := impl.WalksOf(g, p, 1, 2)
	same, _ := impl.WalksOf(g, p, 1, 2)
	ends, _ := impl.EndsOf(g, p, 1, 2)
	sameEnds, _ := impl.EndsOf(g, p, 1, 2)
	for i := range walks {
		wipeList(walks[i].Nodes)
		if !slices.Equal(walks[i].Edges, same[i].Edges) {
			t.Errorf("both lists of %v share memory", same[i])
		}
		wipeList(walks[i].Edges)
		if !slices.EqualFunc(walks[i+1:], same[i+1:], plainWalkSame) {
			t.Fatalf("%v shares memory with another walk of the result", same[i])
		}
	}
	for i := range ends {
		wipeList(ends[i])
		if !slices.EqualFunc(ends[i+1:], sameEnds[i+1:], slices.Equal[[]int]) {
			t.Fatalf("%v shares memory with another pair of the result", sameEnds[i])
		}
	}
}

func TestReadingLeavesMatchesAlone(t *testing.T) {
	for text, want := range oddMatches() {
		m := impl.Match{Walk: markedWalk(want.Walk)}
		for _, bind := range want.Binds {
			m.Binds = append(m.Binds, impl.Bind{Var: bind.Var, Ids: marked(bind.Ids), Group: bind.Group})
		}
		impl.MatchSame(m, m)
		impl.FormatMatch(m)
		for _, name := range []string{"", "e", "x", "y"} {
			bind, _ := impl.BindOf(m, name)
			again, _ := impl.BindOf(m, name)
			wipeList(bind.Ids)
			if other, _ := impl.BindOf(want, name); !plainBindSame(again, other) {
				t.Errorf("BindOf of %q shares memory with another result", text)
			}
		}
		for i, bind := range m.Binds {
			if !untouched(bind.Ids, want.Binds[i].Ids) {
				t.Errorf("a function that reads %q changes a bind of it", text)
			}
		}
		if !untouchedWalk(m.Walk, want.Walk) {
			t.Errorf("a function that reads %q changes its walk", text)
		}
	}
}

func TestMatchingLeavesItsArgumentsAlone(t *testing.T) {
	for _, x := range patsWithTexts() {
		g, p, w := roomy(), copiedPat(x.p), markedWalk(walkOf(0, 0, 1))
		p.Kids = append(append([]impl.Pat{}, p.Kids...), node("mark"))[:len(p.Kids)]
		impl.MatchesOf(g, p, 1, 3)
		impl.WalksOf(g, p, 2, 2)
		impl.EndsOf(g, p, 3, 2)
		impl.FitsWalk(g, p, w)
		if !plainPatSame(p, x.p) || !plainPatSame(p.Kids[:len(p.Kids)+1][len(p.Kids)], node("mark")) {
			t.Errorf("a function of matches changes %s", x.text)
		}
		if !impl.GraphSame(whole(g), whole(roomy())) || !untouchedWalk(w, walkOf(0, 0, 1)) {
			t.Errorf("a function of matches of %s changes its graph or its walk", x.text)
		}
	}
}
