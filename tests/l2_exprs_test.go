package tests

import (
	"slices"
	"strings"
	"testing"

	"loop.example/graphpatterns/impl"
)

// anything is the expression that fits every label but none, and every number.
var anything = impl.Expr{Op: impl.ExprAny}

func atom(s string) impl.Expr { return impl.Expr{Op: impl.ExprAtom, Atom: s} }

func not(e impl.Expr) impl.Expr {
	return impl.Expr{Op: impl.ExprNot, Kids: []impl.Expr{e}}
}

func and(a impl.Expr, b impl.Expr) impl.Expr {
	return impl.Expr{Op: impl.ExprAnd, Kids: []impl.Expr{a, b}}
}

func or(a impl.Expr, b impl.Expr) impl.Expr {
	return impl.Expr{Op: impl.ExprOr, Kids: []impl.Expr{a, b}}
}

// wide returns an expression of labels with so many nodes, which are as near to
// the top as they can be.
func wide(nodes int) impl.Expr {
	switch nodes {
	case 1:
		return atom("a")
	case 2:
		return not(atom("a"))
	}
	left := (nodes - 1) / 2
	return and(wide(left), wide(nodes-1-left))
}

// deep returns an expression of labels with so many nodes on its longest way
// down, of which the first ones have two parts, and the others one. The way
// goes along first parts or second ones.
func deep(way int, joins int, second bool) impl.Expr {
	switch {
	case way == 1:
		return atom("a")
	case joins == 0:
		return not(deep(way-1, 0, second))
	case second:
		return or(atom("b"), deep(way-1, joins-1, second))
	}
	return and(deep(way-1, joins-1, second), atom("b"))
}

// looped returns an expression that is a part of itself.
func looped(op int) impl.Expr {
	kids := []impl.Expr{atom("a"), atom("b")}
	e := impl.Expr{Op: op, Kids: kids}
	kids[1] = e
	return e
}

// shared returns an expression that has so many nodes on a way down, and each
// part twice, in the same memory.
func shared(way int, last impl.Expr) impl.Expr {
	e := last
	for range way - 1 {
		e = and(e, e)
	}
	return e
}

// chained returns an expression with so many negations of another one.
func chained(count int, last impl.Expr) impl.Expr {
	e := last
	for range count {
		e = not(e)
	}
	return e
}

// badLabels and badConds are no atoms of expressions of one kind each.
var (
	badLabels = []string{"", "A", "abcdefg", "a1", "a b", " a", "a ", "%", "!a", "a|b", "(a)", "é", "a\x00", "<5", "=0", "5"}
	badConds  = []string{
		"", "<", "=", ">", "5", "a", "%", "<100", "=100", ">100", "<101", "<-1", "=-0", ">+1", "<01", "=00", "> 1", " <1", "<1 ",
		"<=1", "<<1", "1<", "!1", "~1", "<a", "<1a", "<0x1", "<1.0", "<18446744073709551616", "<18446744073709551617",
		";1", "?1", "<" + strings.Repeat("9", 10000),
	}
)

// brokenExprs returns expressions that are valid ones of no kind, and whose
// atoms are labels.
func brokenExprs() map[string]impl.Expr {
	a := atom("a")
	list := map[string]impl.Expr{
		"the zero value":            {},
		"Op 0":                      {Atom: "a"},
		"Op -1":                     {Op: -1, Atom: "a"},
		"Op 6 and one part":         {Op: 6, Kids: []impl.Expr{a}},
		"Op 6 and two parts":        {Op: 6, Kids: []impl.Expr{a, a}},
		"any with an atom":          {Op: impl.ExprAny, Atom: "a"},
		"not with an atom":          {Op: impl.ExprNot, Atom: "a", Kids: []impl.Expr{a}},
		"and with an atom":          {Op: impl.ExprAnd, Atom: "a", Kids: []impl.Expr{a, a}},
		"or with an atom":           {Op: impl.ExprOr, Atom: "a", Kids: []impl.Expr{a, a}},
		"a bad first part":          and(impl.Expr{}, a),
		"a bad second part":         or(a, not(impl.Expr{})),
		"21 nodes":                  wide(21),
		"100 nodes":                 wide(100),
		"13 nodes on a way":         chained(12, a),
		"20 nodes, 13 on a way":     deep(13, 7, false),
		"a part of itself":          looped(impl.ExprAnd),
		"itself, beside a bad part": or(impl.Expr{}, looped(impl.ExprOr)),
		"parts in the same memory":  shared(60, a),
		"many negations":            chained(100000, a),
	}
	for op, name := range map[int]string{1: "atom", 2: "any", 3: "not", 4: "and", 5: "or"} {
		for kids := range 5 {
			if kids != max(op-2, 0) && !(op == 5 && kids == 2) {
				e := impl.Expr{Op: op, Kids: slices.Repeat([]impl.Expr{a}, kids)}
				if op == impl.ExprAtom {
					e.Atom = "a"
				}
				list[name+" with "+strings.Repeat("I", kids)+" parts"] = e
			}
		}
	}
	return list
}

// texted is an expression with its text.
type texted struct {
	text string
	e    impl.Expr
}

// labelExprs returns expressions of labels, with the texts that they have.
func labelExprs() []texted {
	a, b, c, d := atom("a"), atom("b"), atom("c"), atom("d")
	return []texted{
		{"a", a}, {"abcdef", atom("abcdef")}, {"%", anything}, {"!a", not(a)}, {"!%", not(anything)},
		{"!!a", not(not(a))}, {"!!!%", not(not(not(anything)))},
		{"a&b", and(a, b)}, {"a|b", or(a, b)}, {"a&a", and(a, a)}, {"%|!%", or(anything, not(anything))},
		// Several equal signs: only the second part needs brackets.
		{"a&b&c", and(and(a, b), c)}, {"a&(b&c)", and(a, and(b, c))},
		{"a|b|c", or(or(a, b), c)}, {"a|(b|c)", or(a, or(b, c))},
		{"a&b&(c&d)", and(and(a, b), and(c, d))}, {"a&(b&c)&d", and(and(a, and(b, c)), d)},
		{"a|b|(c|d)", or(or(a, b), or(c, d))}, {"a|(b|(c|d))", or(a, or(b, or(c, d)))},
		// Different signs: brackets around bars between other signs.
		{"a&b|c", or(and(a, b), c)}, {"a|b&c", or(a, and(b, c))}, {"a&b|c&d", or(and(a, b), and(c, d))},
		{"(a|b)&c", and(or(a, b), c)}, {"a&(b|c)", and(a, or(b, c))}, {"(a|b)&(c|d)", and(or(a, b), or(c, d))},
		{"a|b&c|d", or(or(a, and(b, c)), d)}, {"a&b&(c|d)", and(and(a, b), or(c, d))}, {"(a|b)&c&d", and(and(or(a, b), c), d)},
		{"a|(b|c&d)", or(a, or(b, and(c, d)))}, {"a|(b|c)&d", or(a, and(or(b, c), d))},
		// Negations bind most.
		{"!a&b", and(not(a), b)}, {"!(a&b)", not(and(a, b))}, {"a&!b", and(a, not(b))}, {"!a|b", or(not(a), b)},
		{"!(a|b)", not(or(a, b))}, {"a|!b", or(a, not(b))}, {"!!a&!!b", and(not(not(a)), not(not(b)))},
		{"!(!a&b)", not(and(not(a), b))}, {"!(!(a|b)&!c)", not(and(not(or(a, b)), not(c)))}, {"!!(a|b)", not(not(or(a, b)))},
		{"!(a|b)&%", and(not(or(a, b)), anything)}, {"a&!(b&c)", and(a, not(and(b, c)))}, {"a|!(b|c)", or(a, not(or(b, c)))},
	}
}

// numExprs returns expressions of numbers, with the texts that they have.
func numExprs() []texted {
	return []texted{
		{"<0", atom("<0")}, {"=0", atom("=0")}, {">0", atom(">0")}, {"<99", atom("<99")}, {"=99", atom("=99")}, {">99", atom(">99")},
		{"<9", atom("<9")}, {"=10", atom("=10")}, {"%", anything}, {"!%", not(anything)}, {"!!>5", not(not(atom(">5")))},
		{">2&<5|=9", or(and(atom(">2"), atom("<5")), atom("=9"))}, {">2&(<5|=9)", and(atom(">2"), or(atom("<5"), atom("=9")))},
		{"!(<5|>7)&!=6", and(not(or(atom("<5"), atom(">7"))), not(atom("=6")))}, {"=1|(=2|=3)", or(atom("=1"), or(atom("=2"), atom("=3")))},
	}
}

// zeroExpr reports whether e is the zero value.
func zeroExpr(e impl.Expr) bool {
	return e.Op == 0 && e.Atom == "" && len(e.Kids) == 0
}

// plainSame reports whether two small expressions are equal; it is written
// without the package, for testing it.
func plainSame(a impl.Expr, b impl.Expr) bool {
	return a.Op == b.Op && a.Atom == b.Atom && slices.EqualFunc(a.Kids, b.Kids, plainSame)
}

// expectNoExpr fails unless e is the zero value, and ok is false.
func expectNoExpr(t *testing.T, what string, e impl.Expr, ok bool) {
	t.Helper()
	if ok || !zeroExpr(e) {
		t.Errorf("%s = %v, %v", what[:min(len(what), 80)], e, ok)
	}
}

func TestExprValid(t *testing.T) {
	for _, x := range labelExprs() {
		if !impl.ExprValid(x.e, impl.KindLabel) {
			t.Errorf("ExprValid of %s does not hold", x.text)
		}
	}
	for _, x := range numExprs() {
		if !impl.ExprValid(x.e, impl.KindNum) {
			t.Errorf("ExprValid of %s does not hold", x.text)
		}
	}
	for _, kind := range []int{-1, 0, 3, 4, 1 << 40} {
		if impl.ExprValid(anything, kind) || impl.ExprValid(atom("a"), kind) || impl.ExprValid(atom("<5"), kind) {
			t.Errorf("ExprValid accepts the kind %d", kind)
		}
	}
	if !impl.ExprValid(impl.Expr{Op: impl.ExprAny, Kids: []impl.Expr{}}, impl.KindNum) {
		t.Error("ExprValid distinguishes nil and empty slices")
	}
}

func TestExprValidOfAtoms(t *testing.T) {
	check := func(e impl.Expr, label bool, num bool) {
		t.Helper()
		if impl.ExprValid(e, impl.KindLabel) != label || impl.ExprValid(e, impl.KindNum) != num {
			t.Errorf("ExprValid of %.40v is not %v and %v", e, label, num)
		}
	}
	for _, s := range badLabels {
		check(atom(s), false, slices.Contains([]string{"<5", "=0"}, s))
		check(and(atom("a"), not(atom(s))), false, false)
	}
	for _, s := range badConds {
		check(atom(s), s == "a", false)
		check(or(atom("<5"), not(atom(s))), false, false)
	}
	for sign := range 256 {
		for num := range 103 {
			s := string([]byte{byte(sign)}) + number(num)
			check(atom(s), false, strings.IndexByte("<=>", byte(sign)) >= 0 && num <= 99)
		}
	}
}

// number returns a small number in decimal.
func number(num int) string {
	if num < 10 {
		return string([]byte{byte('0' + num)})
	}
	return number(num/10) + number(num%10)
}

func TestExprValidWithinLimits(t *testing.T) {
	for nodes := 1; nodes <= 40; nodes++ {
		if got := impl.ExprValid(wide(nodes), impl.KindLabel); got != (nodes <= 20) {
			t.Errorf("ExprValid with %d nodes = %v", nodes, got)
		}
	}
	for way := 1; way <= 24; way++ {
		for joins := range way {
			for _, second := range []bool{false, true} {
				want := way <= 12 && way+joins <= 20
				if got := impl.ExprValid(deep(way, joins, second), impl.KindLabel); got != want {
					t.Errorf("ExprValid with %d nodes on a way, and %d in all, = %v", way, way+joins, got)
				}
			}
		}
	}
	for what, e := range brokenExprs() {
		if impl.ExprValid(e, impl.KindLabel) || impl.ExprValid(e, impl.KindNum) {
			t.Errorf("ExprValid accepts %s", what)
		}
	}
}

func TestExprSame(t *testing.T) {
	list := append(labelExprs(), numExprs()...)
	for i, x := range list {
		for j, y := range list {
			want := plainSame(x.e, y.e)
			if got := impl.ExprSame(x.e, y.e); got != want || i == j && !got {
				t.Errorf("ExprSame of %s and %s = %v", x.text, y.text, got)
			}
		}
	}
	if impl.ExprSame(and(atom("a"), not(atom("b"))), and(atom("a"), not(atom("c")))) {
		t.Error("ExprSame does not see another atom below")
	}
}

func TestExprSameAcceptsInvalidExprs(t *testing.T) {
	if !impl.ExprSame(impl.Expr{}, impl.Expr{Kids: []impl.Expr{}}) || !impl.ExprSame(wide(30), wide(30)) {
		t.Error("ExprSame distinguishes equal invalid expressions")
	}
	if impl.ExprSame(impl.Expr{Op: 7}, impl.Expr{Op: 8}) || impl.ExprSame(impl.Expr{Op: 2, Atom: "x"}, anything) || impl.ExprSame(wide(30), wide(31)) {
		t.Error("ExprSame does not distinguish invalid expressions")
	}
	a, b := impl.Expr{Kids: []impl.Expr{{}, {}}}, impl.Expr{Kids: []impl.Expr{{}}}
	if impl.ExprSame(a, b) || impl.ExprSame(b, a) {
		t.Error("ExprSame does not see another number of parts")
	}
	for what, e := range brokenExprs() {
		if !impl.ExprSame(e, brokenExprs()[what]) || !impl.ExprSame(e, e) || impl.ExprSame(e, anything) {
			t.Errorf("ExprSame is wrong for %s", what)
		}
	}
	if impl.ExprSame(chained(1000000, atom("a")), chained(1000000, atom("b"))) || impl.ExprSame(chained(1000000, anything), chained(1000001, anything)) {
		t.Error("ExprSame does not see to the ground")
	}
	if impl.ExprSame(shared(60, atom("a")), shared(60, atom("b"))) || impl.ExprSame(looped(impl.ExprAnd), looped(impl.ExprOr)) {
		t.Error("ExprSame does not distinguish expressions with parts in the same memory")
	}
	if once := looped(impl.ExprAnd); !impl.ExprSame(once, and(atom("a"), once)) {
		t.Error("ExprSame distinguishes an expression from its own part")
	}
}

func TestFormatExpr(t *testing.T) {
	for kind, list := range map[int][]texted{impl.KindLabel: labelExprs(), impl.KindNum: numExprs()} {
		for _, x := range list {
			if s := impl.FormatExpr(x.e, kind); s != x.text {
				t.Errorf("FormatExpr = %q, not %q", s, x.text)
			}
			other := impl.KindLabel + impl.KindNum - kind
			if s := impl.FormatExpr(x.e, other); (s != "") != (strings.Trim(x.text, "!%|") == "") {
				t.Errorf("FormatExpr of %s for the other kind = %q", x.text, s)
			}
			if impl.FormatExpr(x.e, 0)+impl.FormatExpr(x.e, 3)+impl.FormatExpr(x.e, -1) != "" {
				t.Errorf("FormatExpr of %s for no kind is not empty", x.text)
			}
		}
	}
	for what, e := range brokenExprs() {
		if s := impl.FormatExpr(e, impl.KindLabel) + impl.FormatExpr(e, impl.KindNum); s != "" {
			t.Errorf("FormatExpr of %s = %q", what, s)
		}
	}
	if s := impl.FormatExpr(deep(12, 8, true), impl.KindLabel); s != "b|(b|(b|(b|(b|(b|(b|(b|!!!a)))))))" {
		t.Errorf("FormatExpr at the limits = %q", s)
	}
	if s := impl.FormatExpr(deep(12, 8, false), impl.KindLabel); s != "!!!a&b&b&b&b&b&b&b&b" {
		t.Errorf("FormatExpr at the limits = %q", s)
	}
}

func TestParseExpr(t *testing.T) {
	for kind, list := range map[int][]texted{impl.KindLabel: labelExprs(), impl.KindNum: numExprs()} {
		for _, x := range list {
			if e, ok := impl.ParseExpr(x.text, kind); !ok || !plainSame(e, x.e) {
				t.Errorf("ParseExpr(%q) = %v, %v", x.text, e, ok)
			}
			for _, other := range []int{-1, 0, 3} {
				e, ok := impl.ParseExpr(x.text, other)
				expectNoExpr(t, "ParseExpr of no kind of "+x.text, e, ok)
			}
		}
	}
	e, ok := impl.ParseExpr("a", impl.KindNum)
	expectNoExpr(t, "ParseExpr of a label as a number", e, ok)
	e, ok = impl.ParseExpr("<5", impl.KindLabel)
	expectNoExpr(t, "ParseExpr of a number as a label", e, ok)
}

// Brackets can stand around any part, and change nothing there.
func TestParseExprWithMoreBrackets(t *testing.T) {
	for _, x := range [][3]string{
		{"(a)", "a"}, {"((a))", "a"}, {"(%)", "%"}, {"(!a)", "!a"}, {"!(a)", "!a"}, {"!(!(a))", "!!a"}, {"(!(!a))", "!!a"},
		{"((a)&b)&(c)", "a&b&c"}, {"(a&b)&c", "a&b&c"}, {"(a|b)|c", "a|b|c"}, {"(a&b)|(c&d)", "a&b|c&d"}, {"a&((b&c))", "a&(b&c)"},
		{"((a|b))&c", "(a|b)&c"}, {"(!a)&(!b)", "!a&!b"}, {"!((a|b))", "!(a|b)"}, {"(a&b&c)", "a&b&c"}, {"(((a|b)&((%))))", "(a|b)&%"},
	} {
		if e, ok := impl.ParseExpr(x[0], impl.KindLabel); !ok || impl.FormatExpr(e, impl.KindLabel) != x[1] {
			t.Errorf("ParseExpr(%q) = %v, %v, not %q", x[0], e, ok, x[1])
		}
	}
	if e, ok := impl.ParseExpr("((<5))|(!(=10))", impl.KindNum); !ok || impl.FormatExpr(e, impl.KindNum) != "<5|!=10" {
		t.Errorf("ParseExpr of numbers = %v, %v", e, ok)
	}
}

func TestParseExprOfOtherTexts(t *testing.T) {
	many := 1000000
	for _, text := range []string{
		"", " ", "&", "|", "!", "(", ")", "()", "!()", "(())", "a&", "&a", "a|", "|a", "a&&b", "a||b", "a&|b", "a|&b", "a!", "a!b", "!&a",
		"(a", "a)", "((a)", "(a))", ")a(", "(a)(b)", "(a)b", "a(b)", "a(", "a%", "%a", "%%", "!%!", "(a&)b", "a&(b", "a|(b|)", "(a&b", "a&b)",
		" a", "a ", "a b", "a & b", "a\n", "a\x00", "A", "a1", "1", "abcdefg", "a&abcdefg", "é", "a,b", "a||", "<", "a<5", "\xff", "a|\x80",
		strings.Repeat("a", many), strings.Repeat("(", many), strings.Repeat("!", many), strings.Repeat("!", many) + "a", strings.Repeat("a|", many) + "a",
		strings.Repeat("&", many), strings.Repeat("(", many) + "a" + strings.Repeat(")", many), strings.Repeat("a|(", many), strings.Repeat("!(", many),
	} {
		e, ok := impl.ParseExpr(text, impl.KindLabel)
		expectNoExpr(t, "ParseExpr of "+text, e, ok)
		e, ok = impl.ParseExpr(text, impl.KindNum)
		if !strings.Contains(text, "<5") {
			expectNoExpr(t, "ParseExpr for numbers of "+text, e, ok)
		}
	}
	for _, text := range badConds {
		for _, text := range []string{text, "<5&" + text, text + "|=5", "(" + text + ")", "!" + text} {
			if !strings.HasSuffix(text, "%") && !strings.HasPrefix(text, "%") && text != "(%)" {
				e, ok := impl.ParseExpr(text, impl.KindNum)
				expectNoExpr(t, "ParseExpr for numbers of "+text, e, ok)
			}
		}
	}
}

// parses reports whether a text is that of an expression of labels.
func parses(text string) bool {
	_, ok := impl.ParseExpr(text, impl.KindLabel)
	return ok
}

// inBrackets returns a text in so many brackets.
func inBrackets(text string, count int) string {
	return strings.Repeat("(", count) + text + strings.Repeat(")", count)
}

func TestParseExprWithinLimits(t *testing.T) {
	for signs := range 20 {
		if text := strings.Repeat("!", signs) + "a"; parses(text) != (signs <= 11) {
			t.Errorf("ParseExpr(%q) = %v", text, signs > 11)
		}
	}
	for count := 1; count <= 14; count++ {
		nodes := 2*count - 1
		if got := parses(strings.Repeat("a|", count-1) + "a"); got != (nodes <= 20) {
			t.Errorf("ParseExpr with %d nodes = %v", nodes, got)
		}
		if got := parses("!a" + strings.Repeat("&a", count-1)); got != (nodes+1 <= 20) {
			t.Errorf("ParseExpr with %d nodes = %v", nodes+1, got)
		}
	}
	for text, want := range map[string]bool{
		"!!!a&b&b&b&b&b&b&b&b": true, "!!!a&b&b&b&b&b&b&b&!b": false, "!!!!a&b&b&b&b&b&b&b&b": false,
		"!!!!a&b&b&b&b&b&b&b": true, "!!!!!a&b&b&b&b&b&b&b": false, "!!!!!a&b&b&b&b&b&b&%": false, "!!!!!a&b&b&b&b&b&b": true,
	} {
		if got := parses(text); got != want {
			t.Errorf("ParseExpr(%q) = %v", text, got)
		}
	}
}

// At most 39 signs and brackets can be open at a place.
func TestParseExprWithOpenSigns(t *testing.T) {
	for signs := range 12 {
		for brackets := range 45 {
			want := signs+brackets <= 39
			negated := strings.Repeat("!", signs) + inBrackets("a", brackets)
			within := inBrackets(strings.Repeat("!", signs)+"a", brackets)
			mixed := strings.Repeat("!(", min(signs, brackets)) + strings.Repeat("!", signs-min(signs, brackets)) +
				inBrackets("a", brackets-min(signs, brackets)) + strings.Repeat(")", min(signs, brackets))
			for _, text := range []string{negated, within, mixed} {
				if got := parses(text); got != want {
					t.Errorf("ParseExpr(%q) = %v", text, got)
				}
			}
			if signs <= 10 && (parses("b&"+negated) != want || parses(negated+"|b") != want || parses(inBrackets("b", 39)+"&"+within) != want) {
				t.Errorf("ParseExpr of %q beside another part is not %v", negated, want)
			}
		}
	}
	for text, want := range map[string]bool{
		inBrackets("a", 39) + "&" + inBrackets("b", 39):                    true,
		"!a&" + inBrackets("!b", 38) + "|!" + inBrackets("c", 38):          true,
		inBrackets("a&"+inBrackets("b", 20), 19):                           true,
		inBrackets("a&"+inBrackets("b", 20), 20):                           false,
		inBrackets("(a)&!b|c", 38):                                         true,
		inBrackets("(a)&!b|c", 39):                                         false,
		inBrackets("a&b|c", 39):                                            true,
		"!" + inBrackets("a&b|c", 38):                                      true,
		"!" + inBrackets("a&b|c", 39):                                      false,
		strings.Repeat("(", 40) + "a":                                      false,
		strings.Repeat("(", 39) + "a" + strings.Repeat(")", 38):            false,
		strings.Repeat("(", 39) + "a" + strings.Repeat(")", 40):            false,
		"(a)&" + strings.Repeat("(a)&", 8) + inBrackets("(a)", 38):         true,
		"(a)&" + strings.Repeat("(a)&", 8) + inBrackets("(a)", 39):         false,
		"!(!(a))|" + inBrackets("!(!(a))", 35) + "&" + inBrackets("%", 39): true,
	} {
		if got := parses(text); got != want {
			t.Errorf("ParseExpr(%q) = %v", text, got)
		}
	}
	e, ok := impl.ParseExpr(inBrackets("<5", 39), impl.KindNum)
	if !ok || !plainSame(e, atom("<5")) {
		t.Errorf("ParseExpr of a number in 39 brackets = %v, %v", e, ok)
	}
	e, ok = impl.ParseExpr(inBrackets("<5", 40), impl.KindNum)
	expectNoExpr(t, "ParseExpr of a number in 40 brackets", e, ok)
}

// holdsFor evaluates an expression by the table of the document.
func holdsFor(e impl.Expr, anyFits bool, atomFits func(string) bool) bool {
	parts := make([]bool, len(e.Kids))
	for i, kid := range e.Kids {
		parts[i] = holdsFor(kid, anyFits, atomFits)
	}
	switch e.Op {
	case impl.ExprAtom:
		return atomFits(e.Atom)
	case impl.ExprAny:
		return anyFits
	case impl.ExprNot:
		return !parts[0]
	case impl.ExprAnd:
		return parts[0] && parts[1]
	}
	return parts[0] || parts[1]
}

// labelFits evaluates an expression for a label.
func labelFits(e impl.Expr, label string) bool {
	return holdsFor(e, label != "", func(atom string) bool { return atom == label })
}

// numFits evaluates an expression for a number.
func numFits(e impl.Expr, num int) bool {
	return holdsFor(e, true, func(atom string) bool {
		for bound := range 100 {
			if atom[1:] == number(bound) {
				return atom[0] == '<' && num < bound || atom[0] == '=' && num == bound || atom[0] == '>' && num > bound
			}
		}
		return false
	})
}

func TestLabelHolds(t *testing.T) {
	for _, x := range labelExprs() {
		for _, label := range []string{"", "a", "b", "c", "d", "e", "ab", "abcdef"} {
			if got := impl.LabelHolds(x.e, label); got != labelFits(x.e, label) {
				t.Errorf("LabelHolds of %s and %q = %v", x.text, label, got)
			}
		}
		for _, label := range []string{"A", "abcdefg", "a ", "1", "%", "!a", "<5", "\x00", "é", strings.Repeat("a", 10000)} {
			if impl.LabelHolds(x.e, label) || impl.LabelHolds(not(x.e), label) {
				t.Errorf("LabelHolds of %s holds for %.20q, which is no label", x.text, label)
			}
		}
	}
}

// A node without a label fits what does not ask for one.
func TestLabelHoldsWithoutLabel(t *testing.T) {
	for text, want := range map[string]bool{
		"%": false, "!%": true, "a": false, "!a": true, "!!a": false, "!!%": false, "%|a": false, "!%|a": true, "!%&!a": true,
		"!(a|b)": true, "!(a|b)&%": false, "!a&!b": true, "a|!a": true, "%|!%": true, "%&!%": false,
	} {
		e, ok := impl.ParseExpr(text, impl.KindLabel)
		if got := impl.LabelHolds(e, ""); !ok || got != want {
			t.Errorf("LabelHolds of %s without a label = %v", text, got)
		}
	}
}

func TestNumHolds(t *testing.T) {
	for _, x := range numExprs() {
		for num := range 100 {
			if got := impl.NumHolds(x.e, num); got != numFits(x.e, num) {
				t.Errorf("NumHolds of %s and %d = %v", x.text, num, got)
			}
		}
		for _, num := range []int{-1, -5, 100, 101, 1 << 40, -1 << 63} {
			if impl.NumHolds(x.e, num) || impl.NumHolds(not(x.e), num) {
				t.Errorf("NumHolds of %s holds for %d", x.text, num)
			}
		}
	}
	for bound := range 100 {
		for num := range 100 {
			less, equal, more := atom("<"+number(bound)), atom("="+number(bound)), atom(">"+number(bound))
			if impl.NumHolds(less, num) != (num < bound) || impl.NumHolds(equal, num) != (num == bound) || impl.NumHolds(more, num) != (num > bound) {
				t.Errorf("NumHolds is wrong for %d and %d", bound, num)
			}
		}
	}
}

func TestNothingHoldsForInvalidExprs(t *testing.T) {
	for what, e := range brokenExprs() {
		for _, e := range []impl.Expr{e, not(e), or(anything, e), or(e, anything)} {
			if impl.LabelHolds(e, "a") || impl.LabelHolds(e, "") || impl.NumHolds(e, 0) || impl.NumHolds(e, 99) {
				t.Errorf("something holds for %s", what)
			}
		}
	}
	for _, x := range labelExprs() {
		if strings.Trim(x.text, "!%|") != "" && (impl.NumHolds(x.e, 5) || impl.NumHolds(not(x.e), 5)) {
			t.Errorf("NumHolds holds for labels %s", x.text)
		}
	}
	for _, x := range numExprs() {
		if strings.Trim(x.text, "!%|") != "" && (impl.LabelHolds(x.e, "a") || impl.LabelHolds(not(x.e), "a")) {
			t.Errorf("LabelHolds holds for numbers %s", x.text)
		}
	}
}

func TestPushNots(t *testing.T) {
	for text, want := range map[string]string{
		"a": "a", "%": "%", "!a": "!a", "!%": "!%", "!!a": "a", "!!!a": "!a", "!!!!%": "%", "!!!!!%": "!%", "a&b": "a&b", "a|b&c": "a|b&c",
		"!(a|b)&%": "!a&!b&%", "!(a&b)": "!a|!b", "!(a|b)": "!a&!b", "!(!a&b)": "a|!b", "!(!a|!b)": "a&b", "!!(a&b)": "a&b", "!!!(a&b)": "!a|!b",
		"!(a&b&c)": "!a|!b|!c", "!(a&(b&c))": "!a|(!b|!c)", "!(a|b&c)": "!a&(!b|!c)", "!(a&b|c)": "(!a|!b)&!c", "!((a|b)&c)": "!a&!b|!c",
		"!(!(a|b)&!c)": "a|b|c", "!(a&!(b|!(c&d)))": "!a|(b|(!c|!d))", "!(%|!%)": "!%&%", "a|!(b|c)": "a|!b&!c", "!(a|a)": "!a&!a",
		"!!!!!!!!!!!a": "!a", "!(b|!(b|!(b|a)))": "!b&(b|!b&!a)",
	} {
		e, ok := impl.ParseExpr(text, impl.KindLabel)
		pushed, ok2 := impl.PushNots(e, impl.KindLabel)
		if s := impl.FormatExpr(pushed, impl.KindLabel); !ok || !ok2 || s != want {
			t.Errorf("PushNots of %s = %q, %v, not %q", text, s, ok2, want)
		}
	}
	e, _ := impl.ParseExpr("!(<5|!(=7&!>9))", impl.KindNum)
	pushed, ok := impl.PushNots(e, impl.KindNum)
	if s := impl.FormatExpr(pushed, impl.KindNum); !ok || s != "!<5&(=7&!>9)" {
		t.Errorf("PushNots of numbers = %q, %v", s, ok)
	}
}

func TestPushNotsOfInvalidExprs(t *testing.T) {
	for what, e := range brokenExprs() {
		for _, kind := range []int{impl.KindLabel, impl.KindNum} {
			pushed, ok := impl.PushNots(e, kind)
			expectNoExpr(t, "PushNots of "+what, pushed, ok)
			pushed, ok = impl.PushNots(not(e), kind)
			expectNoExpr(t, "PushNots of a negation of "+what, pushed, ok)
		}
	}
	// Without the negations, this would be valid.
	pushed, ok := impl.PushNots(chained(12, atom("a")), impl.KindLabel)
	expectNoExpr(t, "PushNots of 12 negations", pushed, ok)
	for _, kind := range []int{-1, 0, 3} {
		pushed, ok := impl.PushNots(anything, kind)
		expectNoExpr(t, "PushNots of no kind", pushed, ok)
	}
	pushed, ok = impl.PushNots(atom("a"), impl.KindNum)
	expectNoExpr(t, "PushNots of a label as a number", pushed, ok)
	pushed, ok = impl.PushNots(atom("<5"), impl.KindLabel)
	expectNoExpr(t, "PushNots of a number as a label", pushed, ok)
}

// A negation at each atom can be more nodes than an expression can have.
func TestPushNotsWithinLimits(t *testing.T) {
	for count := 1; count <= 10; count++ {
		for negated := range count + 1 {
			text := "!(" + strings.Repeat("!a&", negated) + strings.Repeat("a&", count-negated)
			e, ok := impl.ParseExpr(text[:len(text)-1]+")", impl.KindLabel)
			if !ok {
				continue
			}
			pushed, ok := impl.PushNots(e, impl.KindLabel)
			nodes := 2*count - 1 + count - negated
			if nodes > 20 {
				expectNoExpr(t, "PushNots of "+text, pushed, ok)
			} else if want := strings.Repeat("a|", negated) + strings.Repeat("!a|", count-negated); !ok || impl.FormatExpr(pushed, impl.KindLabel)+"|" != want {
				t.Errorf("PushNots of %s = %v, %v, not %s", text, pushed, ok, want)
			}
		}
	}
	for text, want := range map[string]string{
		// 20 nodes
		"!(a&a&a&a&a&a&a)":     "!a|!a|!a|!a|!a|!a|!a",
		"!(a|a|a|a|a|!a|!a)&a": "!a&!a&!a&!a&!a&a&a&a",
		"!!(a|!(b&b&b&b&b&b))": "a|(!b|!b|!b|!b|!b|!b)",
		// 21 nodes
		"!(a&a&a&a&a&a)&a&a":   "",
		"!(a|a|a|a|a|a|!a)&a":  "",
		"a|(b|!(c&c&c&c&c&c))": "",
	} {
		e, ok := impl.ParseExpr(text, impl.KindLabel)
		pushed, ok2 := impl.PushNots(e, impl.KindLabel)
		if !ok || ok2 != (want != "") || impl.FormatExpr(pushed, impl.KindLabel) != want {
			t.Errorf("PushNots of %s = %v, %v, not %s", text, pushed, ok2, want)
		}
		if !ok2 {
			expectNoExpr(t, "PushNots of "+text, pushed, ok2)
		}
	}
}

func TestAtomsOf(t *testing.T) {
	a, b, c := atom("a"), atom("b"), atom("c")
	for _, x := range []struct {
		e    impl.Expr
		want []string
	}{
		{a, []string{"a"}}, {anything, nil}, {not(anything), nil}, {not(not(b)), []string{"b"}}, {and(b, a), []string{"b", "a"}},
		{or(a, and(b, a)), []string{"a", "b"}}, {and(or(c, not(a)), or(b, and(a, c))), []string{"c", "a", "b"}},
		{or(or(a, a), a), []string{"a"}}, {and(anything, c), []string{"c"}}, {or(and(or(and(c, b), a), c), b), []string{"c", "b", "a"}},
		{and(atom(">2"), or(atom("<5"), atom(">2"))), []string{">2", "<5"}}, {or(atom("ab"), atom("a")), []string{"ab", "a"}},
	} {
		if got := impl.AtomsOf(x.e); !slices.Equal(got, x.want) {
			t.Errorf("AtomsOf(%v) = %q, not %q", x.e, got, x.want)
		}
	}
}

func TestAtomsOfInvalidExprs(t *testing.T) {
	a := atom("a")
	for _, x := range []struct {
		e    impl.Expr
		want []string
	}{
		{impl.Expr{}, nil}, {impl.Expr{Atom: "a"}, nil}, {impl.Expr{Op: impl.ExprAny, Atom: "a"}, nil}, {impl.Expr{Op: 6, Atom: "a"}, nil},
		{impl.Expr{Op: impl.ExprNot, Atom: "x", Kids: []impl.Expr{a}}, []string{"a"}},
		{impl.Expr{Op: 9, Kids: []impl.Expr{a, atom("?"), atom("b"), a}}, []string{"a", "?", "b"}},
		{impl.Expr{Op: impl.ExprAny, Kids: []impl.Expr{atom("b"), a}}, []string{"b", "a"}},
		{impl.Expr{Op: impl.ExprAtom, Atom: "x", Kids: []impl.Expr{atom("y"), atom("x")}}, []string{"x", "y"}},
		{impl.Expr{Kids: []impl.Expr{atom(""), a, atom("")}}, []string{"", "a"}}, {atom("no label"), []string{"no label"}},
		{or(a, atom("<5")), []string{"a", "<5"}}, {wide(100), []string{"a"}}, {chained(1000000, a), []string{"a"}},
		{looped(impl.ExprAnd), []string{"a"}}, {or(looped(impl.ExprAnd), atom("z")), []string{"a", "z"}}, {shared(60, atom("s")), []string{"s"}},
	} {
		if got := impl.AtomsOf(x.e); !slices.Equal(got, x.want) {
			t.Errorf("AtomsOf(%.60v) = %q, not %q", x.e.Op, got, x.want)
		}
	}
}

// exprsOfSize returns, for each number of nodes up to most, all expressions
// with so many of them and these leaves.
func exprsOfSize(most int, leaves []impl.Expr) [][]impl.Expr {
	list := [][]impl.Expr{nil, leaves}
	for size := 2; size <= most; size++ {
		var found []impl.Expr
		for _, kid := range list[size-1] {
			found = append(found, not(kid))
		}
		for left := 1; left < size-1; left++ {
			for _, a := range list[left] {
				for _, b := range list[size-1-left] {
					found = append(found, and(a, b), or(a, b))
				}
			}
		}
		list = append(list, found)
	}
	return list
}

// Promise 2: each expression has a text of its own, by which it is read back,
// and in which no pair of brackets can be left out.
func TestExprsAreReadBack(t *testing.T) {
	for kind, leaves := range map[int][]impl.Expr{
		impl.KindLabel: {atom("a"), atom("bc"), anything},
		impl.KindNum:   {atom("<5"), atom("=99"), anything},
	} {
		texts := map[string]bool{}
		for _, list := range exprsOfSize(7, leaves) {
			for _, e := range list {
				text := impl.FormatExpr(e, kind)
				back, ok := impl.ParseExpr(text, kind)
				if !ok || texts[text] || !plainSame(back, e) || !impl.ExprSame(back, e) {
					t.Fatalf("%v has the text %q and is read back as %v, %v", e, text, back, ok)
				}
				texts[text] = true
				for _, less := range withoutBrackets(text) {
					if back, ok := impl.ParseExpr(less, kind); ok && plainSame(back, e) {
						t.Fatalf("%q has more brackets than %q", text, less)
					}
				}
			}
		}
	}
}

// withoutBrackets returns a text without each of its pairs of brackets.
func withoutBrackets(text string) []string {
	var list []string
	var open []int
	for i := range len(text) {
		switch text[i] {
		case '(':
			open = append(open, i)
		case ')':
			start := open[len(open)-1]
			open = open[:len(open)-1]
			list = append(list, text[:start]+text[start+1:i]+text[i+1:])
		}
	}
	return list
}

// Promise 2: negations can be pushed to atoms, where they change nothing.
func TestNegationsArePushed(t *testing.T) {
	for _, list := range exprsOfSize(7, []impl.Expr{atom("a"), atom("b"), anything}) {
		for _, e := range list {
			pushed, ok := impl.PushNots(e, impl.KindLabel)
			if !ok || !notsAtLeaves(pushed) || !slices.Equal(impl.AtomsOf(pushed), impl.AtomsOf(e)) {
				t.Fatalf("PushNots(%v) = %v, %v", e, pushed, ok)
			}
			for _, label := range []string{"", "a", "b", "c"} {
				want := labelFits(e, label)
				if impl.LabelHolds(e, label) != want || impl.LabelHolds(pushed, label) != want {
					t.Fatalf("%v and %v are not the same for %q", e, pushed, label)
				}
			}
			if again, ok := impl.PushNots(pushed, impl.KindLabel); !ok || !plainSame(again, pushed) {
				t.Fatalf("PushNots of PushNots(%v) = %v, %v", e, again, ok)
			}
		}
	}
	for _, list := range exprsOfSize(6, []impl.Expr{atom("<5"), atom("=7"), atom(">6")}) {
		for _, e := range list {
			pushed, ok := impl.PushNots(e, impl.KindNum)
			for num := 3; num <= 9; num++ {
				want := numFits(e, num)
				if !ok || impl.NumHolds(e, num) != want || impl.NumHolds(pushed, num) != want {
					t.Fatalf("%v and %v are not the same for %d", e, pushed, num)
				}
			}
		}
	}
}

// notsAtLeaves reports whether only expressions without parts are negated.
func notsAtLeaves(e impl.Expr) bool {
	for _, kid := range e.Kids {
		if !notsAtLeaves(kid) || e.Op == impl.ExprNot && len(kid.Kids) > 0 {
			return false
		}
	}
	return true
}

// readPlainly reads an expression of labels by dividing its text where the sign
// that binds least stands outside of brackets.
func readPlainly(text string) (impl.Expr, bool) {
	for _, join := range []struct {
		sign byte
		of   func(impl.Expr, impl.Expr) impl.Expr
	}{{'|', or}, {'&', and}} {
		if at := lastOutside(text, join.sign); at >= 0 {
			a, ok := readPlainly(text[:at])
			b, ok2 := readPlainly(text[at+1:])
			return join.of(a, b), ok && ok2
		}
	}
	switch {
	case text == "%":
		return anything, true
	case strings.HasPrefix(text, "!"):
		e, ok := readPlainly(text[1:])
		return not(e), ok
	case strings.HasPrefix(text, "(") && strings.HasSuffix(text, ")"):
		return readPlainly(text[1 : len(text)-1])
	}
	return atom(text), impl.LabelValid(text)
}

// lastOutside returns the last place of a sign outside of brackets, or -1.
func lastOutside(text string, sign byte) int {
	found, open := -1, 0
	for i := range len(text) {
		switch text[i] {
		case '(':
			open++
		case ')':
			open--
		case sign:
			if open == 0 {
				found = i
			}
		}
	}
	return found
}

// Each short text is read as the table of the document says, or not at all.
func TestParseExprOfAllShortTexts(t *testing.T) {
	texts := []string{""}
	count := 0
	for range 7 {
		var longer []string
		for _, text := range texts {
			for _, b := range "a%!&|()" {
				longer = append(longer, text+string(b))
			}
		}
		texts = longer
		for _, text := range texts {
			want, wanted := readPlainly(text)
			got, ok := impl.ParseExpr(text, impl.KindLabel)
			if ok != wanted || ok && !plainSame(got, want) || !ok && !zeroExpr(got) {
				t.Fatalf("ParseExpr(%q) = %v, %v, not %v, %v", text, got, ok, want, wanted)
			}
			if ok {
				count++
			}
		}
	}
	if count < 1000 {
		t.Errorf("only %d texts are those of expressions", count)
	}
}

// A text that differs in one byte is that of another expression, or of none.
func TestParseExprOfChangedTexts(t *testing.T) {
	for kind, text := range map[int]string{impl.KindLabel: "!(abcde|b)&%|!!(c&d)", impl.KindNum: ">2&(<15|=9)|!%&!=99"} {
		for i := range len(text) + 1 {
			for b := range 256 {
				put := string([]byte{byte(b)})
				for _, changed := range []string{text[:i] + put + text[i:], text[:i] + put + text[min(i+1, len(text)):], text[:i] + text[min(i+1, len(text)):]} {
					e, ok := impl.ParseExpr(changed, kind)
					if !ok {
						expectNoExpr(t, "ParseExpr of "+changed, e, ok)
					} else if back, ok := impl.ParseExpr(impl.FormatExpr(e, kind), kind); !ok || !plainSame(back, e) {
						t.Errorf("ParseExpr(%q) = %v, which is not read back", changed, e)
					}
				}
			}
		}
	}
}

// wipeExpr writes over an expression, and over the memory behind it.
func wipeExpr(e impl.Expr) {
	kids := e.Kids[:cap(e.Kids)]
	for i := range kids {
		wipeExpr(kids[i])
		kids[i] = impl.Expr{Op: -1, Atom: "wiped"}
	}
}

// copied returns an expression in new memory.
func copied(e impl.Expr) impl.Expr {
	kids := make([]impl.Expr, len(e.Kids))
	for i, kid := range e.Kids {
		kids[i] = copied(kid)
	}
	return impl.Expr{Op: e.Op, Atom: e.Atom, Kids: kids}
}

func TestExprsShareNoMemory(t *testing.T) {
	for _, x := range labelExprs() {
		e := copied(x.e)
		first, ok := impl.PushNots(e, impl.KindLabel)
		second, ok2 := impl.PushNots(e, impl.KindLabel)
		want := copied(first)
		if !ok || !ok2 || !plainSame(e, x.e) {
			t.Errorf("PushNots changes %s", x.text)
		}
		wipeExpr(first)
		if !plainSame(second, want) || !plainSame(e, x.e) {
			t.Errorf("PushNots of %s shares memory with its argument or another result", x.text)
		}
		wipeExpr(e)
		if !plainSame(second, want) {
			t.Errorf("PushNots of %s is in the memory of its argument", x.text)
		}
		first, _ = impl.ParseExpr(x.text, impl.KindLabel)
		second, _ = impl.ParseExpr(x.text, impl.KindLabel)
		wipeExpr(first)
		if !plainSame(second, x.e) {
			t.Errorf("ParseExpr(%q) shares memory with another result", x.text)
		}
	}
}

// Kids of a result that are equal are not in the same memory.
func TestExprsShareNoMemoryWithin(t *testing.T) {
	part := or(not(atom("a")), atom("b"))
	pushed, ok := impl.PushNots(and(part, part), impl.KindLabel)
	if !ok {
		t.Fatal("PushNots fails")
	}
	wipeExpr(pushed.Kids[0])
	if !plainSame(pushed.Kids[1], part) {
		t.Error("parts of the result of PushNots share memory")
	}
}

// An atom can have memory behind its parts too, although it has none of them.
func TestPushNotsSharesNoUnusedMemory(t *testing.T) {
	behind := []impl.Expr{atom("mark")}
	leaf := impl.Expr{Op: impl.ExprAtom, Atom: "a", Kids: behind[:0]}
	for _, e := range []impl.Expr{leaf, not(leaf), not(not(leaf)), and(leaf, not(leaf))} {
		pushed, ok := impl.PushNots(e, impl.KindLabel)
		wipeExpr(pushed)
		if !ok || !plainSame(behind[0], atom("mark")) {
			t.Errorf("PushNots(%v) = %v, with memory of its argument", e, ok)
		}
	}
}

func TestReadingLeavesExprsAlone(t *testing.T) {
	for _, x := range labelExprs() {
		// Behind the parts is more memory, with a mark, so that writing to it is seen.
		e := copied(x.e)
		e.Kids = append(append([]impl.Expr{}, e.Kids...), atom("mark"))[:len(e.Kids)]
		impl.ExprValid(e, impl.KindLabel)
		impl.FormatExpr(e, impl.KindLabel)
		impl.ExprSame(e, e)
		impl.LabelHolds(e, "a")
		impl.NumHolds(e, 1)
		impl.PushNots(e, impl.KindLabel)
		atoms := impl.AtomsOf(e)
		for i := range atoms {
			atoms[i] = "wiped"
		}
		if !plainSame(e, x.e) || !plainSame(e.Kids[:len(e.Kids)+1][len(e.Kids)], atom("mark")) {
			t.Errorf("a function that reads %s changes it", x.text)
		}
		if len(atoms) > 0 && impl.AtomsOf(e)[0] == "wiped" {
			t.Errorf("AtomsOf %s shares memory with another result", x.text)
		}
	}
}
