package tests

import (
	"cmp"
	"math"
	"math/rand"
	"regexp"
	"slices"
	"strconv"
	"strings"
	"testing"

	"loop.example/graphpatterns/impl"
)

// tableOf returns the table whose lines, with semicolons between, are in a text:
// the names of the columns, and then the rows, with - for -1. It can be one that
// is not valid.
func tableOf(text string) impl.Table {
	var made impl.Table
	for i, line := range strings.Split(text, ";") {
		if i == 0 {
			made.Cols = strings.Fields(line)
			continue
		}
		row := []int{}
		for _, word := range strings.Fields(line) {
			num, err := strconv.Atoi(word)
			if err != nil {
				num = -1
			}
			row = append(row, num)
		}
		made.Rows = append(made.Rows, row)
	}
	return made
}

// tableText returns the text of a table, valid or not, for what a test tells.
func tableText(x impl.Table) string {
	text := strings.Join(x.Cols, " ")
	for _, row := range x.Rows {
		text += ";"
		for i, num := range row {
			if i > 0 {
				text += " "
			}
			text += strconv.Itoa(num)
		}
	}
	return text
}

// tallTable returns a table with a column and so many rows, with equal numbers.
func tallTable(rows int, num int) impl.Table {
	return impl.Table{Cols: []string{"x"}, Rows: slices.Repeat([][]int{{num}}, rows)}
}

// sixCols are as many columns as a table can have.
var sixCols = []string{"x", "y", "e", "f", "count", "abcdef"}

// The plain functions are written without chapter 11, by the document, for
// testing it. They want tables that are valid, and columns that are there.

func plainTableSame(a impl.Table, b impl.Table) bool {
	return slices.Equal(a.Cols, b.Cols) && slices.EqualFunc(a.Rows, b.Rows, slices.Equal[[]int])
}

// colShape matches the names of columns.
var colShape = regexp.MustCompile(`^[a-z]{1,6}$`)

func plainColsValid(cols []string) bool {
	names := map[string]bool{}
	for _, col := range cols {
		if names[col] || !colShape.MatchString(col) {
			return false
		}
		names[col] = true
	}
	return len(names) >= 1 && len(names) <= 6
}

func plainTableValid(x impl.Table) bool {
	for _, row := range x.Rows {
		for _, num := range row {
			if num < -1 || num > 1000 {
				return false
			}
		}
		if len(row) != len(x.Cols) {
			return false
		}
	}
	return plainColsValid(x.Cols) && len(x.Rows) <= 400
}

// plainTable returns the table of rows of binds, valid or not.
func plainTable(rows [][]impl.Bind, cols []string) impl.Table {
	made := impl.Table{Cols: cols}
	for _, binds := range rows {
		row := slices.Repeat([]int{-1}, len(cols))
		// From behind, so that the first bind of a column is the one that stays.
		for i := len(binds) - 1; i >= 0; i-- {
			for j, col := range cols {
				if binds[i].Var != col {
					continue
				}
				row[j] = -1
				if binds[i].Group {
					row[j] = len(binds[i].Ids)
				} else if len(binds[i].Ids) == 1 {
					row[j] = binds[i].Ids[0]
				}
			}
		}
		made.Rows = append(made.Rows, row)
	}
	return made
}

func plainPicked(x impl.Table, cols []string) impl.Table {
	made := impl.Table{Cols: cols}
	for _, row := range x.Rows {
		var picked []int
		for _, col := range cols {
			for i, num := range row {
				if x.Cols[i] == col {
					picked = append(picked, num)
				}
			}
		}
		made.Rows = append(made.Rows, picked)
	}
	return made
}

func plainDistinct(x impl.Table) impl.Table {
	made := impl.Table{Cols: x.Cols}
	for i, row := range x.Rows {
		if !slices.ContainsFunc(x.Rows[:i], func(other []int) bool { return slices.Equal(other, row) }) {
			made.Rows = append(made.Rows, row)
		}
	}
	return made
}

// plainSorted takes the rows number by number, so that equal ones stay in their
// order.
func plainSorted(x impl.Table, col string, down bool) impl.Table {
	made := impl.Table{Cols: x.Cols}
	at := slices.Index(x.Cols, col)
	for num := -1; num <= 1000; num++ {
		wanted := num
		if down {
			wanted = 999 - num
		}
		for _, row := range x.Rows {
			if row[at] == wanted {
				made.Rows = append(made.Rows, row)
			}
		}
	}
	return made
}

func plainSliced(x impl.Table, skip int, count int) impl.Table {
	made := impl.Table{Cols: x.Cols}
	for i, row := range x.Rows {
		if i >= skip && i < skip+count {
			made.Rows = append(made.Rows, row)
		}
	}
	return made
}

func plainCounted(x impl.Table, col string) impl.Table {
	made := impl.Table{Cols: []string{col, "count"}}
	at := slices.Index(x.Cols, col)
	for num := -1; num <= 1000; num++ {
		count := 0
		for _, row := range x.Rows {
			if row[at] == num {
				count++
			}
		}
		if count > 0 {
			made.Rows = append(made.Rows, []int{num, count})
		}
	}
	return made
}

func plainTableText(x impl.Table) string {
	text := ""
	for _, line := range strings.Split(tableText(x), ";") {
		text += line + "\n"
	}
	return strings.ReplaceAll(text, "-1", "-")
}

// expectTable fails unless a function has returned this table, and true.
func expectTable(t *testing.T, what string, got impl.Table, ok bool, want impl.Table) {
	t.Helper()
	if !ok || !plainTableSame(got, want) {
		t.Errorf("%.300s = %.300q, %v, not %.300q", what, tableText(got), ok, tableText(want))
	}
}

// expectNoTable fails unless a function has returned the zero value, and false.
func expectNoTable(t *testing.T, what string, got impl.Table, ok bool) {
	t.Helper()
	if ok || len(got.Cols) != 0 || len(got.Rows) != 0 {
		t.Errorf("%.200s = %d columns and %d rows, %v", what, len(got.Cols), len(got.Rows), ok)
	}
}

// colLists returns lists of columns of a table: one column, all of them in both
// orders, and each two of them.
func colLists(cols []string) [][]string {
	back := slices.Clone(cols)
	slices.Reverse(back)
	lists := [][]string{cols, back}
	for _, first := range cols {
		lists = append(lists, []string{first})
		for _, second := range cols {
			if first != second {
				lists = append(lists, []string{first, second})
			}
		}
	}
	return lists
}

// checkTable fails unless all functions of a valid table return what the document
// says.
func checkTable(t *testing.T, x impl.Table) {
	t.Helper()
	text := tableText(x)
	if !impl.TableValid(x) {
		t.Errorf("TableValid(%.200s) does not hold", text)
	}
	if got := impl.FormatTable(x); got != plainTableText(x) {
		t.Errorf("FormatTable(%.200s) = %.200q", text, got)
	}
	got, ok := impl.DistinctRows(x)
	expectTable(t, "DistinctRows of "+text, got, ok, plainDistinct(x))
	for _, cols := range colLists(x.Cols) {
		got, ok := impl.PickCols(x, cols)
		expectTable(t, "PickCols "+strings.Join(cols, " ")+" of "+text, got, ok, plainPicked(x, cols))
	}
	for _, col := range x.Cols {
		for _, down := range []bool{false, true} {
			got, ok := impl.SortRows(x, col, down)
			expectTable(t, "SortRows by "+col+" of "+text, got, ok, plainSorted(x, col, down))
		}
		got, ok := impl.CountBy(x, col)
		if col == "count" {
			expectNoTable(t, "CountBy count of "+text, got, ok)
		} else {
			expectTable(t, "CountBy "+col+" of "+text, got, ok, plainCounted(x, col))
		}
	}
	rows := len(x.Rows)
	for _, skip := range []int{0, 1, 2, rows / 2, rows - 1, rows, rows + 1, 399, 400, 401} {
		for _, count := range []int{0, 1, 2, rows / 3, rows - 1, rows, rows + 1, 399, 400, 401} {
			what := "SliceRows by " + strconv.Itoa(skip) + " and " + strconv.Itoa(count) + " of " + text
			got, ok := impl.SliceRows(x, skip, count)
			if skip < 0 || skip > 400 || count < 0 || count > 400 {
				expectNoTable(t, what, got, ok)
			} else {
				expectTable(t, what, got, ok, plainSliced(x, skip, count))
			}
		}
	}
}

// expectInvalidTable fails unless all functions find that a table is not valid,
// whatever else they are given.
func expectInvalidTable(t *testing.T, what string, x impl.Table) {
	t.Helper()
	if impl.TableValid(x) {
		t.Errorf("TableValid accepts %s", what)
	}
	if text := impl.FormatTable(x); text != "" {
		t.Errorf("FormatTable of %s = %.80q", what, text)
	}
	got, ok := impl.DistinctRows(x)
	expectNoTable(t, "DistinctRows of "+what, got, ok)
	cols := append([]string{"x", "y", "e", "count", ""}, x.Cols[:min(3, len(x.Cols))]...)
	for _, list := range [][]string{x.Cols, {"x"}, {"y", "x"}, cols[len(cols)-1:], nil} {
		got, ok := impl.PickCols(x, list)
		expectNoTable(t, "PickCols of "+what, got, ok)
	}
	for _, col := range cols {
		for _, down := range []bool{false, true} {
			got, ok := impl.SortRows(x, col, down)
			expectNoTable(t, "SortRows of "+what, got, ok)
		}
		got, ok := impl.CountBy(x, col)
		expectNoTable(t, "CountBy of "+what, got, ok)
	}
	for _, num := range []int{-1, 0, 1, 2, 400, 401} {
		got, ok := impl.SliceRows(x, num, 1)
		expectNoTable(t, "SliceRows of "+what, got, ok)
		got, ok = impl.SliceRows(x, 0, num)
		expectNoTable(t, "SliceRows of "+what, got, ok)
	}
}

// brokenCols returns lists of columns that no table can have.
func brokenCols() map[string][]string {
	list := map[string][]string{
		"no columns": nil, "seven columns": append(slices.Clone(sixCols), "z"), "many columns": slices.Repeat([]string{"x"}, 1<<20),
		"a column twice": {"x", "x"}, "the first one again at the end": {"x", "y", "e", "x"}, "two behind others twice": {"x", "y", "e", "y"}, "one of six twice": {"x", "y", "e", "f", "g", "f"}, "all columns the same": {"y", "y", "y"},
		"an empty name": {""}, "an empty name behind others": {"x", "y", ""}, "an empty name in front": {"", "x"}, "a capital letter": {"X"}, "a long name": {"abcdefg"}, "a long name behind others": {"x", "abcdefg"}, "a very long name": {strings.Repeat("x", 1<<20)},
		"a space": {"x y"}, "a space behind a name": {"x "}, "a newline": {"x\n"}, "a digit": {"y", "x1"}, "a zero byte": {"x\x00"}, "a byte that is no letter": {"\xff"}, "a letter of two bytes": {"é"}, "a sign": {"-"}, "a sign behind others": {"x", "y", "-"},
	}
	for i := range 6 {
		bad := slices.Clone(sixCols)
		bad[i] = "B"
		list["a bad name at "+number(i)] = bad
	}
	return list
}

// brokenTables returns tables that are not valid, by what is wrong with them.
func brokenTables() map[string]impl.Table {
	list := map[string]impl.Table{
		"nothing": {}, "empty lists": {Cols: []string{}, Rows: [][]int{}}, "rows without columns": {Rows: [][]int{{}, {}}}, "numbers without columns": {Rows: [][]int{{1}}}, "an empty row": {Cols: []string{"x"}, Rows: [][]int{{}}}, "a row that is nil": {Cols: []string{"x"}, Rows: [][]int{nil}},
	}
	for what, cols := range brokenCols() {
		list[what+" without rows"] = impl.Table{Cols: cols}
		if len(cols) < 10 {
			list[what+" and two rows"] = impl.Table{Cols: cols, Rows: [][]int{make([]int, len(cols)), make([]int, len(cols))}}
		}
	}
	for _, text := range []string{"x;1 2", "x;;", "x;1;", "x;1;2 3;4", "x y;1;2", "x y;1 2;3", "x y;1 2;3;4 5", "x y;1;2 3 4", "x y;1 2 3", "x y;;1 2", "x y e f count abcdef;1 2 3 4 5 6;1 2 3 4 5", "x y e f count abcdef;1 2 3 4 5 6 7", "x;-2", "x;1001", "x;0;-2;0", "x y;0 0;0 1001", "x y;-2 0", "x y;1 2;3 -7", "x;-1000", "x;1024", "x;5;99999"} {
		list["the table "+text] = tableOf(text)
	}
	for _, num := range []int{-2, -3, -400, -1000, -1001, 1001, 1002, 1255, 1 << 16, 1 << 32, 1<<32 + 1, -1 << 32, math.MaxInt, math.MinInt, math.MinInt + 1} {
		for place := range 6 {
			bad := impl.Table{Cols: []string{"x", "y"}, Rows: [][]int{{0, 1}, {-1, 1000}, {5, 5}}}
			bad.Rows[place/2][place%2] = num
			list["the number "+strconv.Itoa(num)+" at "+number(place)] = bad
		}
	}
	for _, rows := range []int{401, 402, 500, 656, 1000, 1 << 16} {
		list[number(rows)+" rows"] = tallTable(rows, 3)
	}
	return list
}

func TestTableValid(t *testing.T) {
	for text, want := range map[string]bool{
		"x": true, "x;1": true, "x;1;1": true, "x;-": true, "x y": true, "x y;1 -": true, "x y;1 2;1 2": true, "y x;1000 0": true, "count;5": true, "x count;5 1": true, "abcdef;0": true, "x y e f count abcdef": true, "x y e f count abcdef;0 1 2 3 4 5": true, "x y e f count abcdef;0 1 2 3 4 5;- - - - - -": true, "x xx xxx;0 0 0": true,
		"": false, ";": false, ";1": false, "x x": false, "x x;1 1": false, "x y x": false, "x y e f count abcdef z": false, "x;1 2": false, "x;": false, "x y;1": false, "X": false, "abcdefg": false, "x;1001": false, "x;-2": false, "x y;1 1;1": false,
	} {
		x := tableOf(text)
		if got := impl.TableValid(x); got != want || plainTableValid(x) != want {
			t.Errorf("TableValid(%s) = %v", text, got)
		}
	}
	for what, x := range brokenTables() {
		expectInvalidTable(t, what, x)
	}
	// Lists that are nil are as good as those that are empty.
	if !impl.TableValid(impl.Table{Cols: []string{"x"}}) || !impl.TableValid(impl.Table{Cols: []string{"x"}, Rows: [][]int{}}) {
		t.Error("TableValid does not accept a table without rows")
	}
}

func TestTableValidWithinLimits(t *testing.T) {
	names := []string{"a", "b", "c", "d", "e", "f", "g", "h", "i", "j"}
	for cols := range 11 {
		for length := range 11 {
			for _, rows := range []int{0, 1, 2, 399, 400, 401, 402} {
				x := impl.Table{Cols: names[:cols], Rows: slices.Repeat([][]int{make([]int, length)}, rows)}
				want := cols >= 1 && cols <= 6 && rows <= 400 && (rows == 0 || length == cols)
				if got := impl.TableValid(x); got != want {
					t.Errorf("TableValid of %d columns and %d rows of %d = %v", cols, rows, length, got)
				}
			}
		}
	}
	for rows := range 410 {
		if got := impl.TableValid(tallTable(rows, -1)); got != (rows <= 400) {
			t.Errorf("TableValid of %d rows = %v", rows, got)
		}
	}
	for num := -1010; num <= 2010; num++ {
		for place := range 4 {
			x := impl.Table{Cols: []string{"x", "y"}, Rows: [][]int{{0, 0}, {1, 2}}}
			x.Rows[place/2][place%2] = num
			if got := impl.TableValid(x); got != (num >= -1 && num <= 1000) {
				t.Errorf("TableValid with %d at %d = %v", num, place, got)
			}
		}
	}
}

// Each byte in each place of a name, and each two columns with the same one.
func TestTableValidOfColumns(t *testing.T) {
	for length := range 8 {
		for place := range length {
			for b := range 256 {
				name := []byte(strings.Repeat("k", length))
				name[place] = byte(b)
				want := length <= 6 && b >= 'a' && b <= 'z'
				for _, cols := range [][]string{{string(name)}, {"x", string(name)}, {string(name), "x"}} {
					if len(cols) == 2 && cols[0] == cols[1] {
						continue
					}
					if got := impl.TableValid(impl.Table{Cols: cols}); got != want {
						t.Errorf("TableValid of the columns %q = %v", cols, got)
					}
				}
			}
		}
	}
	for count := 2; count <= 6; count++ {
		for i := range count {
			for j := range i {
				cols := slices.Clone(sixCols[:count])
				cols[i] = cols[j]
				x := impl.Table{Cols: cols, Rows: [][]int{make([]int, count)}}
				expectInvalidTable(t, "the columns "+strings.Join(cols, " "), x)
			}
		}
	}
}

// expectTableOf fails unless TableOf returns what the document says.
func expectTableOf(t *testing.T, rows [][]impl.Bind, cols []string) bool {
	t.Helper()
	want := plainTable(rows, cols)
	got, ok := impl.TableOf(rows, cols)
	what := "TableOf of " + strings.Join(rowTexts(rows[:min(len(rows), 20)]), ", ") + " by " + strings.Join(cols, " ")
	if !plainTableValid(want) {
		expectNoTable(t, what, got, ok)
		return false
	}
	expectTable(t, what, got, ok, want)
	return ok
}

func TestTableOf(t *testing.T) {
	type rows = [][]impl.Bind
	for _, x := range []struct {
		rows rows
		cols string
		want string
	}{
		{rows{{bind("x", 1)}}, "x", "x;1"}, {rows{{bind("x", 1)}, {bind("x", 0)}, {bind("x", 1)}}, "x", "x;1;0;1"}, {rows{{bind("x", 1), bind("y", 2)}}, "y x", "y x;2 1"}, {rows{{bind("x", 1), bind("y", 2)}}, "y", "y;2"},
		{rows{{group("e", 5, 6), bind("x", 7)}}, "x e", "x e;7 2"}, {rows{{group("e")}, {group("e", 9)}, {group("e", 0, 0, 0)}}, "e", "e;0;1;3"}, {rows{{group("e", 5)}, {bind("e", 5)}}, "e", "e;1;5"},
		// A variable that is not bound has -1 in its row only.
		{rows{{}}, "x", "x;-"}, {rows{nil, {bind("x", 0)}, {bind("y", 0)}}, "x y", "x y;- -;0 -;- 0"}, {rows{{bind("xx", 1), bind("", 2)}}, "x", "x;-"}, {rows{{bind("x", 1)}}, "xx", "xx;-"}, {rows{{bind("y", 1)}}, "x", "x;-"},
		// So has one that does not stand for one thing, but a group can have any number of them.
		{rows{{bind("x")}}, "x", "x;-"}, {rows{{bind("x", 1, 2)}}, "x", "x;-"}, {rows{{bind("x", 1, 1)}}, "x", "x;-"}, {rows{{bind("x", -1)}}, "x", "x;-"}, {rows{{group("x")}}, "x", "x;0"}, {rows{{group("x", -1)}}, "x", "x;1"}, {rows{{bind("x", 5000, 1)}}, "x", "x;-"}, {rows{{group("x", 5000, -5000)}}, "x", "x;2"},
		// The first bind counts, even if it stands for nothing.
		{rows{{bind("x", 1), bind("x", 2)}}, "x", "x;1"}, {rows{{bind("x"), bind("x", 2)}}, "x", "x;-"}, {rows{{bind("x", 3, 4), bind("x", 2)}}, "x", "x;-"}, {rows{{bind("x", 4), group("x", 2)}}, "x", "x;4"}, {rows{{group("x"), bind("x", 4)}}, "x", "x;0"}, {rows{{bind("y", 0), bind("x", 1), bind("y", 2), bind("x", 5000)}}, "x y", "x y;1 0"},
		// Binds need not be in order, and there can be more of them than columns.
		{rows{{bind("y", 3), bind("a", 1), group("e", 1), bind("x", 0)}}, "x e a", "x e a;0 1 1"}, {rows{{bind("z", 5000), bind("x", 0)}}, "x", "x;0"}, {nil, "x", "x"}, {rows{}, "x y", "x y"}, {rows{{bind("count", 6)}}, "count", "count;6"}, {rows{{bind("abcdef", 6)}}, "abcdef", "abcdef;6"},
		{rows{{bind("x", 1), bind("y", 2), group("e", 3), group("f"), bind("count", 5), bind("abcdef", 6)}}, "abcdef count f e y x", "abcdef count f e y x;6 5 0 1 2 1"},
	} {
		cols := strings.Fields(x.cols)
		got, ok := impl.TableOf(x.rows, cols)
		expectTable(t, "TableOf of "+strings.Join(rowTexts(x.rows), ", "), got, ok, tableOf(x.want))
		if !expectTableOf(t, x.rows, cols) {
			t.Errorf("TableOf %s is none", x.want)
		}
	}
}

func TestTableOfWithinLimits(t *testing.T) {
	for rows := range 410 {
		if ok := expectTableOf(t, slices.Repeat([][]impl.Bind{{bind("x", rows)}}, rows), []string{"x", "y"}); ok != (rows <= 400) {
			t.Errorf("TableOf of %d rows = %v", rows, ok)
		}
	}
	for _, rows := range []int{656, 1 << 10, 1 << 16} {
		got, ok := impl.TableOf(make([][]impl.Bind, rows), []string{"x"})
		expectNoTable(t, "TableOf of many rows", got, ok)
	}
	nums := []int{-5, -2, -1, 0, 1, 5, 99, 100, 999, 1000, 1001, 1002, 5000, 1 << 32, 1<<32 + 5, -1 << 32, math.MaxInt, math.MinInt}
	for _, num := range nums {
		want := num >= -1 && num <= 1000
		for _, row := range [][]impl.Bind{{bind("x", num)}, {bind("e", 2), bind("x", num)}, {bind("x", num), bind("x", 2)}} {
			for _, rows := range [][][]impl.Bind{{row}, {{bind("x", 0)}, row}, {row, {bind("x", 1000)}}} {
				if ok := expectTableOf(t, rows, []string{"x"}); ok != want {
					t.Errorf("TableOf with %d = %v", num, ok)
				}
				expectTableOf(t, rows, []string{"e", "x"})
				// A number that is in no column does not count.
				if !expectTableOf(t, rows, []string{"e"}) {
					t.Errorf("TableOf with %d elsewhere fails", num)
				}
			}
		}
	}
	// A group can be as large as a number can be, whatever is in it.
	for _, size := range []int{0, 1, 2, 14, 255, 256, 400, 401, 999, 1000, 1001, 1002, 2000, 1 << 16} {
		ids := slices.Repeat([]int{5000}, size)
		got := expectTableOf(t, [][]impl.Bind{{group("e", ids...)}}, []string{"e"})
		if got != (size <= 1000) {
			t.Errorf("TableOf with a group of %d = %v", size, got)
		}
		if size != 1 && !expectTableOf(t, [][]impl.Bind{{bind("e", ids...)}}, []string{"e"}) {
			t.Errorf("TableOf with a bind of %d fails", size)
		}
	}
}

// Columns have to be those of a table, even if there are no rows, or more of them
// than there can be.
func TestTableOfInvalidColumns(t *testing.T) {
	for what, cols := range brokenCols() {
		for _, rows := range [][][]impl.Bind{nil, {nil}, {{bind("x", 1), bind("y", 2)}}, {{bind("", 1), bind("X", 1)}, {bind("x y", 1)}}, slices.Repeat([][]impl.Bind{{bind("x", 1)}}, 401)} {
			got, ok := impl.TableOf(rows, cols)
			expectNoTable(t, "TableOf by "+what, got, ok)
		}
	}
	for count := 1; count <= 6; count++ {
		if !expectTableOf(t, [][]impl.Bind{{bind("x", 1)}, {}}, sixCols[:count]) {
			t.Errorf("TableOf by %d columns fails", count)
		}
	}
}

// All rows of up to three of these binds, alone and beside others.
func TestTableOfManyRows(t *testing.T) {
	binds := []impl.Bind{bind("x", 3), bind("x"), bind("x", 2, 3), group("x"), group("x", 7, 8), bind("y", 1), group("y", 4), bind("x", 1001), bind("", 5)}
	rows := [][]impl.Bind{nil}
	for i := 0; len(rows[i]) < 3; i++ {
		for _, b := range binds {
			rows = append(rows, append(slices.Clone(rows[i]), b))
		}
	}
	valid := 0
	for i, row := range rows {
		for _, cols := range [][]string{{"x"}, {"y", "x"}, {"x", "y", "z"}} {
			expectTableOf(t, [][]impl.Bind{row}, cols)
			if expectTableOf(t, [][]impl.Bind{rows[i*7%len(rows)], row, rows[i/2]}, cols) {
				valid++
			}
		}
	}
	if len(rows) != 1+9+81+729 || valid < 1200 || valid > 2300 {
		t.Errorf("there are %d rows, and %d tables", len(rows), valid)
	}
}

// A query has a row of a table for each of its rows, in their order.
func TestTableOfRowsOfQueries(t *testing.T) {
	for _, x := range []struct{ graph, text, cols, want string }{
		{"(a 1)(b 2)(a 3)[0>1 r 3][1>2 r 1][2>0 s 5]", "(x)-[e]->(y) (y)-[f]->(z) !x<z", "x e y f z", "x e y f z;0 0 1 1 2"},
		{both, "(x)-[e]->(y)", "y e", "y e;1 0;0 1;2 2"}, {both, "(x)-[e]->(y)", "x q", "x q;0 -;1 -;1 -"}, {both, "{(x:b)|(y:a)}", "x y", "x y;1 -;- 0;- 2"}, {both, "(x:b){-[e]->}*", "x e", "x e;1 0;1 1;1 2;1 1"}, {both, "(:c)", "x", "x"}, {both, "() ()", "x", "x;-"},
	} {
		rows, ok := impl.RowsOf(parsed(t, x.graph), queryOf(t, x.text), impl.ModeWalk, 2)
		got, ok2 := impl.TableOf(rows, strings.Fields(x.cols))
		expectTable(t, "the table of "+x.text, got, ok && ok2, tableOf(x.want))
	}
	// A query never has more rows than a table can have, nor greater numbers.
	found := 0
	for _, text := range []string{round, both} {
		for _, q := range rowQueries(t) {
			rows, ok := impl.RowsOf(parsed(t, text), q, impl.ModeWalk, 2)
			names := append(namesOf(q), "none")
			if ok && expectTableOf(t, rows, names[:min(6, len(names))]) {
				found += len(rows)
			} else if ok {
				t.Errorf("TableOf of %d rows of %s fails", len(rows), impl.FormatQuery(q))
			}
		}
	}
	if found < 5000 {
		t.Errorf("the tables have only %d rows", found)
	}
}

// sampleTables are texts of tables of one and of several columns.
var sampleTables = []string{
	"x", "x y", "x;5", "x;-", "x;1;2;3", "x;3;1;2;1;3", "x;7;7;7", "x;1000;-;0;1000;-", "x y;1 -", "x y;1 2;1 2;1 2", "x y;1 2;2 1;1 2;2 2;2 1;1 1", "y x;0 3;1 2;2 1;3 0", "x y e;1 5 9;0 5 8;1 4 9;0 5 8;1 5 8", "x count;1 3;2 3;3 1", "count;4;4;2", "count x;1 1;1 1;0 1",
	"abcdef a ab;100 10 1;99 9 0;- - -;100 9 1000;9 99 999", "x y e f count abcdef;0 1 2 3 4 5;0 1 2 3 4 6;- 1 2 3 4 5;0 1 2 3 4 5;5 4 3 2 1 0", "x y e f g h;- - - - - -;1000 1000 1000 1000 1000 1000;0 0 0 0 0 0;- - - - - 0",
}

func TestTablesOfSamples(t *testing.T) {
	for _, text := range sampleTables {
		checkTable(t, tableOf(text))
	}
}

func TestPickCols(t *testing.T) {
	for _, x := range []struct{ text, cols, want string }{
		{"x y;1 2;3 4", "x", "x;1;3"}, {"x y;1 2;3 4", "y", "y;2;4"}, {"x y;1 2;3 4", "x y", "x y;1 2;3 4"}, {"x y;1 2;3 4", "y x", "y x;2 1;4 3"}, {"x;1;1;-", "x", "x;1;1;-"}, {"x y", "y", "y"},
		// Rows that become equal all stay.
		{"x y;1 2;1 3;1 2", "x", "x;1;1;1"}, {"x y e;1 2 3;4 5 6", "e x", "e x;3 1;6 4"}, {"x y e;1 2 3;4 5 6", "e y x", "e y x;3 2 1;6 5 4"}, {"x y e;1 2 3;4 5 6", "y x e", "y x e;2 1 3;5 4 6"}, {"x count;7 8", "count", "count;8"},
		{"x y e f count abcdef;0 1 2 3 4 5;6 7 8 9 10 11", "abcdef", "abcdef;5;11"}, {"x y e f count abcdef;0 1 2 3 4 5;6 7 8 9 10 11", "abcdef count f e y x", "abcdef count f e y x;5 4 3 2 1 0;11 10 9 8 7 6"}, {"x y e f count abcdef;0 1 2 3 4 5", "x y e f count abcdef", "x y e f count abcdef;0 1 2 3 4 5"},
	} {
		got, ok := impl.PickCols(tableOf(x.text), strings.Fields(x.cols))
		expectTable(t, "PickCols "+x.cols+" of "+x.text, got, ok, tableOf(x.want))
	}
}

func TestPickColsOfInvalidColumns(t *testing.T) {
	for _, text := range []string{"x", "x;1", "x y;1 2", "x y e f count abcdef;0 1 2 3 4 5"} {
		for what, cols := range brokenCols() {
			got, ok := impl.PickCols(tableOf(text), cols)
			expectNoTable(t, "PickCols by "+what+" of "+text, got, ok)
		}
		// A column that is not one of the table, wherever it is.
		for _, other := range []string{"z", "xx", "xy", "ab", "abcde", "counts"} {
			for _, cols := range [][]string{{other}, {"x", other}, {other, "x"}, {"x", other, "q"}} {
				got, ok := impl.PickCols(tableOf(text), cols)
				expectNoTable(t, "PickCols "+strings.Join(cols, " ")+" of "+text, got, ok)
			}
		}
	}
	got, ok := impl.PickCols(tableOf("x;1"), []string{"y"})
	expectNoTable(t, "PickCols of another column", got, ok)
	got, ok = impl.PickCols(tableOf("x y;1 2"), sixCols)
	expectNoTable(t, "PickCols of more columns", got, ok)
	got, ok = impl.PickCols(tableOf("x y;1 2"), []string{"x", "x"})
	expectNoTable(t, "PickCols of a column twice", got, ok)
	got, ok = impl.PickCols(tableOf("x y;1 2"), []string{"x", "y", "x"})
	expectNoTable(t, "PickCols of three columns of two", got, ok)
}

func TestDistinctRows(t *testing.T) {
	for text, want := range map[string]string{
		"x": "x", "x y": "x y", "x;1": "x;1", "x;1;1": "x;1", "x;1;2": "x;1;2", "x;2;1;2;1;3": "x;2;1;3", "x;0;-;0;-": "x;0;-", "x;-;0;-;0": "x;-;0",
		// Rows that are equal in some columns only are not equal.
		"x y;1 2;1 3;2 2": "x y;1 2;1 3;2 2", "x y;1 2;2 1;1 2": "x y;1 2;2 1", "x y;0 1;1 0;0 0;0 1": "x y;0 1;1 0;0 0", "x y e;1 1 2;1 2 1;2 1 1;1 1 2": "x y e;1 1 2;1 2 1;2 1 1", "x y;1 12;11 2;1 12": "x y;1 12;11 2", "x y;- 1;1 -;- -;- 1": "x y;- 1;1 -;- -",
		"x y e f g h;0 0 0 0 0 0;0 0 0 0 0 1;0 0 0 0 0 0;1 0 0 0 0 0;0 0 0 0 0 1": "x y e f g h;0 0 0 0 0 0;0 0 0 0 0 1;1 0 0 0 0 0", "x y e f g h;1 2 3 4 5 6;1 2 3 4 5 7;1 2 3 4 6 6;1 2 3 5 5 6;1 2 4 4 5 6;1 3 3 4 5 6;2 2 3 4 5 6": "x y e f g h;1 2 3 4 5 6;1 2 3 4 5 7;1 2 3 4 6 6;1 2 3 5 5 6;1 2 4 4 5 6;1 3 3 4 5 6;2 2 3 4 5 6",
	} {
		got, ok := impl.DistinctRows(tableOf(text))
		expectTable(t, "DistinctRows of "+text, got, ok, tableOf(want))
	}
}

func TestSortRows(t *testing.T) {
	for _, x := range []struct {
		text, col string
		up, down  string
	}{
		{"x;2;3;1", "x", "x;1;2;3", "x;3;2;1"}, {"x", "x", "x", "x"}, {"x;5", "x", "x;5", "x;5"}, {"x;1;1;1", "x", "x;1;1;1", "x;1;1;1"}, {"x;0;-;1000;99;100;9", "x", "x;-;0;9;99;100;1000", "x;1000;100;99;9;0;-"},
		// Rows that are equal in the column stay in their order, both ways.
		{"x y;1 5;0 9;1 4;0 8;1 6", "x", "x y;0 9;0 8;1 5;1 4;1 6", "x y;1 5;1 4;1 6;0 9;0 8"}, {"x y;1 5;0 9;1 4;0 8;1 6", "y", "x y;1 4;1 5;1 6;0 8;0 9", "x y;0 9;0 8;1 6;1 5;1 4"}, {"y x;5 1;9 0;4 1;8 0;6 1", "x", "y x;9 0;8 0;5 1;4 1;6 1", "y x;5 1;4 1;6 1;9 0;8 0"},
		{"x y;7 3;7 2;7 1", "x", "x y;7 3;7 2;7 1", "x y;7 3;7 2;7 1"}, {"x y;1 0;- 0;1 1;- 1;0 0", "x", "x y;- 0;- 1;0 0;1 0;1 1", "x y;1 0;1 1;0 0;- 0;- 1"}, {"count x;3 1;1 2;2 3", "count", "count x;1 2;2 3;3 1", "count x;3 1;2 3;1 2"}, {"x y e f g h;0 0 0 0 0 2;1 0 0 0 0 1;2 0 0 0 0 3", "h", "x y e f g h;1 0 0 0 0 1;0 0 0 0 0 2;2 0 0 0 0 3", "x y e f g h;2 0 0 0 0 3;0 0 0 0 0 2;1 0 0 0 0 1"},
	} {
		got, ok := impl.SortRows(tableOf(x.text), x.col, false)
		expectTable(t, "SortRows by "+x.col+" of "+x.text, got, ok, tableOf(x.up))
		got, ok = impl.SortRows(tableOf(x.text), x.col, true)
		expectTable(t, "SortRows down by "+x.col+" of "+x.text, got, ok, tableOf(x.down))
	}
}

// A column that is not there is none to sort or to count by.
func TestSortRowsAndCountByOfOtherColumns(t *testing.T) {
	for _, text := range append(slices.Clone(sampleTables), "x;1;0", "xx x y;0 0 0;1 1 1") {
		x := tableOf(text)
		for _, col := range []string{"", "z", "X", "xyz", "X y", "x y", " x", "x ", "x\n", "x\x00", "abcde", "abcdefg", "é", "\xff", "-", "0", strings.Repeat("x", 1<<16)} {
			for _, down := range []bool{false, true} {
				got, ok := impl.SortRows(x, col, down)
				expectNoTable(t, "SortRows by "+col+" of "+text, got, ok)
			}
			got, ok := impl.CountBy(x, col)
			expectNoTable(t, "CountBy "+col+" of "+text, got, ok)
		}
		// The name of a column of another table is none either.
		for _, col := range append([]string{"g", "h", "xx", "ab"}, sixCols...) {
			if slices.Contains(x.Cols, col) {
				continue
			}
			got, ok := impl.SortRows(x, col, false)
			expectNoTable(t, "SortRows by "+col+" of "+text, got, ok)
			got, ok = impl.CountBy(x, col)
			expectNoTable(t, "CountBy "+col+" of "+text, got, ok)
		}
	}
}

func TestSliceRows(t *testing.T) {
	const five = "x y;0 9;1 8;2 7;1 8;4 5"
	for _, x := range []struct {
		text        string
		skip, count int
		want        string
	}{
		{five, 0, 5, five}, {five, 0, 400, five}, {five, 0, 6, five}, {five, 0, 4, "x y;0 9;1 8;2 7;1 8"}, {five, 0, 1, "x y;0 9"}, {five, 0, 0, "x y"}, {five, 1, 1, "x y;1 8"}, {five, 1, 2, "x y;1 8;2 7"}, {five, 1, 4, "x y;1 8;2 7;1 8;4 5"}, {five, 1, 5, "x y;1 8;2 7;1 8;4 5"}, {five, 3, 2, "x y;1 8;4 5"},
		// Behind the end, there are none.
		{five, 4, 1, "x y;4 5"}, {five, 4, 2, "x y;4 5"}, {five, 4, 400, "x y;4 5"}, {five, 4, 0, "x y"}, {five, 5, 0, "x y"}, {five, 5, 1, "x y"}, {five, 5, 400, "x y"}, {five, 6, 1, "x y"}, {five, 9, 2, "x y"}, {five, 400, 0, "x y"}, {five, 400, 1, "x y"}, {five, 400, 400, "x y"}, {"x", 0, 0, "x"}, {"x", 0, 400, "x"}, {"x", 400, 400, "x"}, {"x", 1, 1, "x"}, {"x;7", 0, 1, "x;7"}, {"x;7", 1, 1, "x"},
	} {
		got, ok := impl.SliceRows(tableOf(x.text), x.skip, x.count)
		expectTable(t, "SliceRows by "+strconv.Itoa(x.skip)+" and "+strconv.Itoa(x.count), got, ok, tableOf(x.want))
	}
}

func TestSliceRowsWithinLimits(t *testing.T) {
	nums := []int{math.MinInt, math.MinInt + 1, -1 << 32, -400, -2, -1, 0, 1, 2, 199, 398, 399, 400, 401, 402, 656, 800, 1000, 1 << 16, 1 << 32, 1<<32 + 1, math.MaxInt - 1, math.MaxInt}
	for _, rows := range []int{0, 1, 3, 399, 400} {
		x := tallTable(rows, 0)
		for i := range x.Rows {
			x.Rows[i] = []int{i}
		}
		for _, skip := range nums {
			for _, count := range nums {
				what := "SliceRows of " + strconv.Itoa(rows) + " rows by " + strconv.Itoa(skip) + " and " + strconv.Itoa(count)
				got, ok := impl.SliceRows(x, skip, count)
				if skip < 0 || skip > 400 || count < 0 || count > 400 {
					expectNoTable(t, what, got, ok)
				} else {
					expectTable(t, what, got, ok, plainSliced(x, skip, count))
				}
			}
		}
	}
	for num := -10; num <= 420; num++ {
		want := num >= 0 && num <= 400
		_, ok := impl.SliceRows(tableOf("x;1;2"), num, 1)
		_, ok2 := impl.SliceRows(tableOf("x;1;2"), 1, num)
		if ok != want || ok2 != want {
			t.Errorf("SliceRows by %d = %v and %v", num, ok, ok2)
		}
	}
}

func TestCountBy(t *testing.T) {
	for _, x := range []struct{ text, col, want string }{
		{"x;5", "x", "x count;5 1"}, {"x;5;5;5", "x", "x count;5 3"}, {"x;3;1;2;1", "x", "x count;1 2;2 1;3 1"}, {"x", "x", "x count"}, {"x y", "y", "y count"}, {"x;0;-;0;-;-", "x", "x count;- 3;0 2"}, {"x;1000;-;99;100;9;10", "x", "x count;- 1;9 1;10 1;99 1;100 1;1000 1"},
		{"x y;1 5;2 5;1 6;2 5", "x", "x count;1 2;2 2"}, {"x y;1 5;2 5;1 6;2 5", "y", "y count;5 3;6 1"}, {"y x;7 0;8 0;9 0", "x", "x count;0 3"}, {"abcdef y;1 2;1 3", "abcdef", "abcdef count;1 2"}, {"x y e f g h;0 1 2 3 4 5;0 1 2 3 4 4;5 5 5 5 5 5", "h", "h count;4 1;5 2"},
		// Other columns can be named as the one of the result.
		{"x count;1 9;1 8;2 7", "x", "x count;1 2;2 1"}, {"count x;9 1;9 2;9 1", "x", "x count;1 2;2 1"}, {"x counts;1 9", "counts", "counts count;9 1"}, {"coun;1;0", "coun", "coun count;0 1;1 1"},
	} {
		got, ok := impl.CountBy(tableOf(x.text), x.col)
		expectTable(t, "CountBy "+x.col+" of "+x.text, got, ok, tableOf(x.want))
	}
	for _, text := range []string{"count", "count;1", "count;1;1", "x count;1 2", "count x;1 2;1 3", "x;1", "x y;1 2", "x y e f count abcdef;0 1 2 3 4 5"} {
		got, ok := impl.CountBy(tableOf(text), "count")
		expectNoTable(t, "CountBy count of "+text, got, ok)
	}
	// All numbers can be there as often as there are rows, or once each.
	for _, rows := range []int{1, 2, 399, 400} {
		for _, num := range []int{-1, 0, 1, 999, 1000} {
			got, ok := impl.CountBy(tallTable(rows, num), "x")
			expectTable(t, "CountBy of a tall table", got, ok, impl.Table{Cols: []string{"x", "count"}, Rows: [][]int{{num, rows}}})
		}
	}
	down := tallTable(400, 0)
	for i := range down.Rows {
		down.Rows[i] = []int{398 - i}
	}
	checkTable(t, down)
	if got, ok := impl.CountBy(down, "x"); !ok || len(got.Rows) != 400 || got.Rows[0][0] != -1 || got.Rows[399][0] != 398 {
		t.Errorf("CountBy of 400 numbers = %d rows, %v", len(got.Rows), ok)
	}
}

func TestFormatTable(t *testing.T) {
	for text, want := range map[string]string{
		"x y;1 -": "x y\n1 -\n", "x": "x\n", "x y": "x y\n", "x;0": "x\n0\n", "x;-": "x\n-\n", "x;1000;10;1;-": "x\n1000\n10\n1\n-\n", "x y e;- - -;0 0 0;1 11 111": "x y e\n- - -\n0 0 0\n1 11 111\n", "count abcdef;9 99": "count abcdef\n9 99\n", "x;1;1": "x\n1\n1\n",
		"x y e f count abcdef;0 1 2 3 4 5;- 100 999 1000 10 -": "x y e f count abcdef\n0 1 2 3 4 5\n- 100 999 1000 10 -\n",
	} {
		if got := impl.FormatTable(tableOf(text)); got != want {
			t.Errorf("FormatTable(%s) = %q, not %q", text, got, want)
		}
	}
	for num := -1; num <= 1000; num++ {
		want := strings.ReplaceAll("x y\n"+strconv.Itoa(num)+" 7\n", "-1", "-")
		if got := impl.FormatTable(impl.Table{Cols: []string{"x", "y"}, Rows: [][]int{{num, 7}}}); got != want {
			t.Errorf("FormatTable of %d = %q", num, got)
		}
	}
	for _, rows := range []int{0, 1, 399, 400, 401} {
		got := impl.FormatTable(tallTable(rows, 5))
		if want := "x\n" + strings.Repeat("5\n", rows); rows <= 400 && got != want || rows > 400 && got != "" {
			t.Errorf("FormatTable of %d rows has %d bytes", rows, len(got))
		}
	}
}

// All small tables are as the document says.
func TestAllSmallTables(t *testing.T) {
	for cols, most := range map[int]int{1: 5, 2: 3, 3: 2} {
		rows := [][]int{{}}
		for range cols {
			var longer [][]int
			for _, row := range rows {
				for _, num := range []int{-1, 0, 7} {
					longer = append(longer, append(slices.Clone(row), num))
				}
			}
			rows = longer
		}
		tables := []impl.Table{{Cols: []string{"y", "x", "count"}[:cols]}}
		for range most {
			for _, x := range tables {
				checkTable(t, x)
			}
			var larger []impl.Table
			for _, x := range tables {
				for _, row := range rows {
					larger = append(larger, impl.Table{Cols: x.Cols, Rows: append(slices.Clone(x.Rows), row)})
				}
			}
			tables = larger
		}
		for _, x := range tables {
			checkTable(t, x)
		}
	}
}

// manyTables returns valid tables of all sizes, more or less at random, but always
// the same ones.
func manyTables(count int) []impl.Table {
	random := rand.New(rand.NewSource(12))
	names := []string{"x", "y", "count", "e", "abcdef", "f", "xx", "z"}
	var list []impl.Table
	for i := range count {
		random.Shuffle(len(names), func(a, b int) { names[a], names[b] = names[b], names[a] })
		made := impl.Table{Cols: slices.Clone(names[:1+i%6])}
		span := []int{2, 3, 10, 1002}[i%4]
		for range random.Intn([]int{4, 20, 401}[i%3]) {
			var row []int
			for range made.Cols {
				row = append(row, random.Intn(span)-1)
			}
			made.Rows = append(made.Rows, row)
		}
		list = append(list, made)
	}
	return list
}

func TestManyTables(t *testing.T) {
	several := 0
	for _, x := range manyTables(240) {
		checkTable(t, x)
		if count := len(plainDistinct(x).Rows); count > 1 && count < len(x.Rows) {
			several++
		}
	}
	if several < 50 {
		t.Errorf("only %d tables have equal rows beside others", several)
	}
}

// Promise 11: tables are picked, sorted and counted. What functions return of the
// results of others agrees.
func TestTablesArePickedSortedAndCounted(t *testing.T) {
	for _, x := range append(manyTables(120), tallTable(400, 1000), tableOf("x"), tableOf("x;1")) {
		col := x.Cols[0]
		up, _ := impl.SortRows(x, col, false)
		down, _ := impl.SortRows(x, col, true)
		if !slices.IsSortedFunc(up.Rows, func(a, b []int) int { return cmp.Compare(a[0], b[0]) }) || !slices.IsSortedFunc(down.Rows, func(a, b []int) int { return cmp.Compare(b[0], a[0]) }) {
			t.Errorf("SortRows of %.100s is in no order", tableText(x))
		}
		// Sorted once more, it stays; and sorted by all columns from behind, rows are in order.
		again, ok := impl.SortRows(up, col, false)
		expectTable(t, "SortRows of sorted rows", again, ok, up)
		ordered := x
		for i := len(x.Cols) - 1; i >= 0; i-- {
			ordered, _ = impl.SortRows(ordered, x.Cols[i], false)
		}
		if !slices.IsSortedFunc(ordered.Rows, slices.Compare[[]int]) || len(ordered.Rows) != len(x.Rows) {
			t.Errorf("SortRows of %.100s by all columns is in no order", tableText(x))
		}
		// Picking and sorting can change places, and so can picking and slicing.
		picked, ok := impl.PickCols(x, []string{col})
		sorted, _ := impl.SortRows(picked, col, true)
		late, _ := impl.PickCols(down, []string{col})
		expectTable(t, "SortRows of PickCols", sorted, ok, late)
		// Equal rows are next to each other once they are sorted by all columns.
		distinct, ok := impl.DistinctRows(ordered)
		expectTable(t, "DistinctRows of sorted rows", distinct, ok, impl.Table{Cols: x.Cols, Rows: slices.CompactFunc(slices.Clone(ordered.Rows), slices.Equal[[]int])})
		// All slices of a table make the table.
		joined := impl.Table{Cols: x.Cols}
		for skip := 0; skip <= 400; skip += 7 {
			part, ok := impl.SliceRows(x, skip, 7)
			if !ok || len(part.Rows) > 7 {
				t.Errorf("SliceRows by %d has %d rows, %v", skip, len(part.Rows), ok)
			}
			joined.Rows = append(joined.Rows, part.Rows...)
		}
		expectTable(t, "all slices", joined, true, x)
		checkCounts(t, x, col)
	}
}

// checkCounts fails unless the counts of a column agree with the rows in which it
// has these numbers, wherever they are.
func checkCounts(t *testing.T, x impl.Table, col string) {
	t.Helper()
	counts, ok := impl.CountBy(x, col)
	if col == "count" {
		expectNoTable(t, "CountBy count", counts, ok)
		return
	}
	sum := 0
	for _, row := range counts.Rows {
		sum += row[1]
	}
	if !ok || sum != len(x.Rows) || !slices.IsSortedFunc(counts.Rows, slices.Compare[[]int]) {
		t.Errorf("CountBy of %.100s = %.100s", tableText(x), tableText(counts))
	}
	down, _ := impl.SortRows(x, col, true)
	again, ok := impl.CountBy(down, col)
	expectTable(t, "CountBy of sorted rows", again, ok, counts)
	picked, _ := impl.PickCols(down, []string{col})
	distinct, _ := impl.DistinctRows(picked)
	slices.Reverse(distinct.Rows)
	counted, ok := impl.PickCols(counts, []string{col})
	expectTable(t, "the numbers of CountBy", counted, ok, distinct)
	// Each number is counted once, so that counts of its numbers are all 1.
	ones, ok := impl.CountBy(counts, col)
	if !ok || len(ones.Rows) != len(counts.Rows) || slices.ContainsFunc(ones.Rows, func(row []int) bool { return row[1] != 1 }) {
		t.Errorf("CountBy of CountBy of %.100s = %.100s", tableText(x), tableText(ones))
	}
}

// markedTable returns a table in memory of its own, with marks behind all lists.
func markedTable(x impl.Table) impl.Table {
	made := impl.Table{Cols: append(slices.Clone(x.Cols), "mark")[:len(x.Cols)]}
	for _, row := range x.Rows {
		made.Rows = append(made.Rows, marked(row))
	}
	made.Rows = append(made.Rows, marked([]int{77}))[:len(x.Rows)]
	return made
}

// untouchedTable reports whether a table made by markedTable is still so.
func untouchedTable(x impl.Table, want impl.Table) bool {
	for i, row := range x.Rows {
		if !untouched(row, want.Rows[i]) {
			return false
		}
	}
	col, row := x.Cols[:len(x.Cols)+1][len(x.Cols)], x.Rows[:len(x.Rows)+1][len(x.Rows)]
	return plainTableSame(x, want) && col == "mark" && untouched(row, []int{77})
}

// wipeTable writes over a table, and over the memory behind its lists.
func wipeTable(x impl.Table) {
	rows := x.Rows[:cap(x.Rows)]
	for i := range rows {
		wipeList(rows[i])
		rows[i] = nil
	}
	for i := range x.Cols[:cap(x.Cols)] {
		x.Cols[:cap(x.Cols)][i] = "wiped"
	}
}

// tableMakers returns all functions that return a table of another one, each with
// arguments for which it does so for a table with the columns x and y.
func tableMakers() map[string]func(x impl.Table) (impl.Table, bool) {
	type table = impl.Table
	return map[string]func(x table) (table, bool){
		"PickCols":        func(x table) (table, bool) { return impl.PickCols(x, x.Cols) },
		"PickCols of two": func(x table) (table, bool) { return impl.PickCols(x, []string{"y", "x"}) },
		"DistinctRows":    impl.DistinctRows,
		"SortRows":        func(x table) (table, bool) { return impl.SortRows(x, "x", false) },
		"SortRows down":   func(x table) (table, bool) { return impl.SortRows(x, "y", true) },
		"SliceRows":       func(x table) (table, bool) { return impl.SliceRows(x, 0, 400) },
		"SliceRows of a part": func(x table) (table, bool) {
			return impl.SliceRows(x, 1, 2)
		},
		"SliceRows of nothing": func(x table) (table, bool) { return impl.SliceRows(x, 1, 0) },
		"CountBy":              func(x table) (table, bool) { return impl.CountBy(x, "y") },
	}
}

// expectOwnTable fails unless all lists of a result are in memory of their own,
// and the result, given a second time, in other memory.
func expectOwnTable(t *testing.T, what string, first impl.Table, second impl.Table) {
	t.Helper()
	want := markedTable(second)
	wipeTable(first)
	if !plainTableSame(second, want) {
		t.Errorf("%s shares memory with another result", what)
	}
	for i := range second.Rows {
		former := slices.Clone(second.Rows[i])
		wipeList(second.Rows[i])
		second.Rows[i] = former
		if !plainTableSame(second, want) {
			t.Fatalf("%s has rows in the same memory", what)
		}
	}
	clear(second.Rows[:cap(second.Rows)])
	if !slices.Equal(second.Cols, want.Cols) {
		t.Errorf("%s has its columns in the memory of its rows", what)
	}
}

func TestTablesShareNoMemory(t *testing.T) {
	for what, call := range tableMakers() {
		for _, text := range []string{"x y", "x y;1 2", "x y;3 1;1 2;1 2;2 0;3 1", "x y e f g h;5 4 3 2 1 0;0 1 2 3 4 5"} {
			x := markedTable(tableOf(text))
			first, ok := call(x)
			second, _ := call(x)
			if !ok || !untouchedTable(x, tableOf(text)) {
				t.Errorf("%s of %s = %v, or it changes its argument", what, text, ok)
			}
			want := markedTable(first)
			wipeTable(x)
			if !plainTableSame(first, want) {
				t.Errorf("%s of %s is in the memory of its argument", what, text)
			}
			expectOwnTable(t, what+" of "+text, first, second)
		}
		// Rows of the argument can be in the same memory; those of the result are not.
		row := marked([]int{1, 2})
		x := impl.Table{Cols: []string{"x", "y"}, Rows: [][]int{row, row, row[:2:2], row}}
		first, _ := call(x)
		second, ok := call(x)
		if !ok {
			t.Errorf("%s of equal rows fails", what)
		}
		expectOwnTable(t, what+" of equal rows", first, second)
		if !untouched(row, []int{1, 2}) {
			t.Errorf("%s has memory of its argument", what)
		}
	}
}

func TestTableOfSharesNoMemory(t *testing.T) {
	original := []impl.Bind{bind("x", 1), group("e", 4, 5), bind("y")}
	one := markedBinds(original)
	rows := append(slices.Repeat([][]impl.Bind{one}, 3), nil, []impl.Bind{bind("mark")})[:4]
	cols := append([]string{"e", "x", "y"}, "mark")[:3]
	first, ok := impl.TableOf(rows, cols)
	second, _ := impl.TableOf(rows, cols)
	expectTable(t, "TableOf", first, ok, tableOf("e x y;2 1 -;2 1 -;2 1 -;- - -"))
	if !untouchedBinds(one, original) || len(rows[3]) != 0 || rows[:5][4][0].Var != "mark" || !slices.Equal(cols[:4], []string{"e", "x", "y", "mark"}) {
		t.Error("TableOf changes its arguments")
	}
	wipeRow(one)
	cols[0], cols[1] = "wiped", "wiped"
	expectTable(t, "TableOf of memory that is changed", second, ok, tableOf("e x y;2 1 -;2 1 -;2 1 -;- - -"))
	expectOwnTable(t, "TableOf", first, second)
}

func TestPickColsSharesNoMemoryWithColumns(t *testing.T) {
	x, cols := tableOf("x y;1 2;3 4"), append([]string{"y", "x"}, "mark")[:2]
	got, ok := impl.PickCols(x, cols)
	if !slices.Equal(cols[:3], []string{"y", "x", "mark"}) {
		t.Errorf("PickCols changes its columns to %q", cols[:3])
	}
	cols[0], cols[1], cols[:3][2] = "wiped", "wiped", "wiped"
	expectTable(t, "PickCols of columns that are changed", got, ok, tableOf("y x;2 1;4 3"))
	wipeTable(got)
	if !slices.Equal(cols[:3], []string{"wiped", "wiped", "wiped"}) || !plainTableSame(x, tableOf("x y;1 2;3 4")) {
		t.Error("PickCols has memory of its arguments")
	}
}

func TestReadingLeavesTablesAlone(t *testing.T) {
	for _, text := range append(slices.Clone(sampleTables), "x x;1 2", "x;1 2", "", "x;5000") {
		x := markedTable(tableOf(text))
		impl.TableValid(x)
		impl.FormatTable(x)
		impl.DistinctRows(x)
		for _, col := range append(slices.Clone(x.Cols), "mark", "") {
			impl.SortRows(x, col, false)
			impl.SortRows(x, col, true)
			impl.CountBy(x, col)
			impl.PickCols(x, []string{col})
		}
		impl.SliceRows(x, 1, 1)
		impl.SliceRows(x, 400, 400)
		if !untouchedTable(x, tableOf(text)) {
			t.Errorf("a function that reads the table %s changes it", text)
		}
	}
}
