package tests

import (
	"regexp"
	"slices"
	"strings"

	"loop.example/formatplans/impl"
)

// tableCells has the empty cell, cells with spaces and bars, and the widest one with one that is less wide.
var tableCells = []string{
	"", "a", "bb", "ccc", " ", "  ", " d", "d ", "|", "a|b", "'", "~", "{}", strings.Repeat("w", impl.MaxWidth), strings.Repeat("v", impl.MaxWidth-1),
}

// plainCells has cells that a table is read back with.
var plainCells = []string{"", "a", "bb", "c c", "ddddd", "~", "-1.5", strings.Repeat("w", impl.MaxWidth)}

// tableOf returns a table of so many rows and columns, whose cells are chosen out of some by a seed.
func tableOf(count int, columns int, cells []string, seed int) [][]string {
	rows := [][]string{}
	for range count {
		row := []string{}
		for range columns {
			seed = (seed*37 + 11) % 1009
			row = append(row, cells[seed%len(cells)])
		}
		rows = append(rows, row)
	}
	return rows
}

// eachTable calls f with tables of all sizes.
func eachTable(cells []string, f func(rows [][]string)) {
	for count := 0; count <= impl.MaxRows; count++ {
		for columns := 0; columns <= impl.MaxColumns; columns++ {
			for seed := range 25 {
				f(tableOf(count, columns, cells, seed))
			}
		}
	}
}

// eachAligns calls f with all alignments of so many columns.
func eachAligns(columns int, f func(aligns []int)) {
	if columns == 0 {
		f(nil)
		return
	}
	eachAligns(columns-1, func(aligns []int) {
		for _, align := range sides {
			f(append(slices.Clone(aligns), align))
		}
	})
}

// notTables returns rows that are no table, each because of one row or cell.
func notTables() [][][]string {
	bad := [][][]string{
		tableOf(impl.MaxRows+1, 2, plainCells, 1),
		tableOf(impl.MaxRows+1, 0, plainCells, 1),
		tableOf(1, impl.MaxColumns+1, plainCells, 1),
		tableOf(impl.MaxRows, impl.MaxColumns+1, plainCells, 1),
		tableOf(1000, 1, plainCells, 1),
		tableOf(1, 1000, plainCells, 1),
		{{"a"}, {"a", "b"}}, {{"a", "b"}, {"a"}}, {{}, {"a"}}, {{"a"}, {}}, {nil, {""}}, {{""}, nil},
		{{"a"}, {"b"}, {"c", "d"}}, {{"a", "b"}, {"c", "d"}, {"e", "f", "g"}},
	}
	for _, cell := range []string{
		strings.Repeat("a", impl.MaxWidth+1), strings.Repeat(" ", impl.MaxWidth+1), strings.Repeat("~", impl.MaxText), strings.Repeat("a", 1000),
		"\n", "a\n", "\ta", "\x00", "a\x1fb", "\x7f", "\x80", "\xff", "é",
	} {
		bad = append(bad, [][]string{{cell}}, [][]string{{"a", cell}}, [][]string{{cell, "a"}}, [][]string{{"a", "b"}, {"c", cell}}, [][]string{{"a", cell}, {"c", "d"}})
	}
	return bad
}

// widthOf returns the width of a column.
func widthOf(rows [][]string, column int) int {
	width := 0
	for _, row := range rows {
		width = max(width, len(row[column]))
	}
	return width
}

// tableBy lays a table that has a row.
func tableBy(rows [][]string, aligns []int) string {
	out := ""
	for _, row := range rows {
		out += "|"
		for i, cell := range row {
			out += filledBy(cell, widthOf(rows, i), " ", aligns[i]) + "|"
		}
		out += "\n"
	}
	return out
}

// linePattern has a line of a table with its newline.
var linePattern = regexp.MustCompile(`^\|(?:[^|\n]*\|)*\n`)

// cellPattern has a cell of at most MaxWidth printable bytes, of which none is a bar, between spaces.
var cellPattern = regexp.MustCompile(`^ *((?:[!-{}~](?:[ -{}~]{0,28}[!-{}~])?)?) *$`)

// rowOf returns the cells of a line with its newline, and whether all of them are valid.
func rowOf(line string) ([]string, bool) {
	row := []string{}
	for part := range strings.SplitSeq(strings.TrimSuffix(line[1:], "\n"), "|") {
		m := cellPattern.FindStringSubmatch(part)
		if m == nil {
			return nil, false
		}
		row = append(row, m[1])
	}
	// Nothing is behind the last bar, and is no cell.
	return row[:len(row)-1], len(row) <= impl.MaxColumns+1
}

// rowsOf returns what ReadTable is to give.
func rowsOf(s string) ([][]string, bool) {
	rows := [][]string{}
	for s != "" {
		line := linePattern.FindString(s)
		if line == "" {
			return nil, false
		}
		s = s[len(line):]
		row, ok := rowOf(line)
		if !ok || len(rows) > 0 && len(row) != len(rows[0]) {
			return nil, false
		}
		rows = append(rows, row)
	}
	if len(rows) == 0 || len(rows) > impl.MaxRows {
		return nil, false
	}
	return rows, true
}

func sameRows(a [][]string, b [][]string) bool {
	return slices.EqualFunc(a, b, slices.Equal[[]string])
}

func cloneRows(rows [][]string) [][]string {
	all := [][]string{}
	for _, row := range rows {
		all = append(all, slices.Clone(row))
	}
	return all
}
