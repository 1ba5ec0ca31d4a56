package tests

import (
	"slices"
	"strings"
	"testing"

	"loop.example/formatplans/impl"
)

func TestWidthsOfExamples(t *testing.T) {
	wide := strings.Repeat("w", impl.MaxWidth)
	for _, c := range []struct {
		rows [][]string
		want []int
	}{
		{nil, nil},
		{[][]string{}, nil},
		{[][]string{{}}, nil},
		{[][]string{nil, {}, nil}, nil},
		{[][]string{{""}}, []int{0}},
		{[][]string{{"", "a", "  "}}, []int{0, 1, 2}},
		{[][]string{{"a", "bb"}, {"ccc", "d"}}, []int{3, 2}},
		{[][]string{{"", ""}, {"a", ""}, {"", ""}}, []int{1, 0}},
		{[][]string{{wide, "|"}, {"", ""}}, []int{30, 1}},
		{tableOf(impl.MaxRows, impl.MaxColumns, []string{"ab"}, 0), []int{2, 2, 2, 2, 2}},
	} {
		if got := impl.WidthsOf(c.rows); !slices.Equal(got, c.want) {
			t.Errorf("WidthsOf(%q) = %v, want %v", c.rows, got, c.want)
		}
	}
}

func TestWidthsOfRejects(t *testing.T) {
	for _, rows := range notTables() {
		if got := impl.WidthsOf(rows); got != nil {
			t.Errorf("WidthsOf(%q) = %v", rows, got)
		}
	}
}

func TestPromise46WidthsAreOfCells(t *testing.T) {
	eachTable(tableCells, func(rows [][]string) {
		widths := impl.WidthsOf(rows)
		columns := 0
		if len(rows) > 0 {
			columns = len(rows[0])
		}
		if len(widths) != columns {
			t.Fatalf("WidthsOf(%q) = %v", rows, widths)
		}
		for i, width := range widths {
			one := false
			for _, row := range rows {
				if len(row[i]) > width {
					t.Fatalf("WidthsOf(%q) = %v", rows, widths)
				}
				one = one || len(row[i]) == width
			}
			if !one {
				t.Fatalf("WidthsOf(%q) = %v", rows, widths)
			}
		}
	})
}

func TestLayTableExamples(t *testing.T) {
	for _, c := range []struct {
		rows   [][]string
		aligns []int
		want   string
	}{
		{[][]string{{}}, nil, "|\n"},
		{[][]string{nil, {}}, []int{}, "|\n|\n"},
		{[][]string{{""}}, []int{impl.AlLeft}, "||\n"},
		{[][]string{{"", ""}, {"", ""}}, []int{impl.AlRight, impl.AlCentre}, "|||\n|||\n"},
		{[][]string{{"a"}}, []int{impl.AlCentre}, "|a|\n"},
		{[][]string{{"a", "bb"}, {"ccc", "d"}}, []int{impl.AlLeft, impl.AlRight}, "|a  |bb|\n|ccc| d|\n"},
		{[][]string{{"a", "bb"}, {"ccc", "d"}}, []int{impl.AlRight, impl.AlLeft}, "|  a|bb|\n|ccc|d |\n"},
		{[][]string{{"a"}, {"bbbb"}, {""}}, []int{impl.AlCentre}, "| a  |\n|bbbb|\n|    |\n"},
		{[][]string{{" "}, {"a|b"}}, []int{impl.AlRight}, "|   |\n|a|b|\n"},
		{tableOf(2, impl.MaxColumns, []string{"x"}, 0), []int{1, 2, 3, 2, 1}, "|x|x|x|x|x|\n|x|x|x|x|x|\n"},
	} {
		if got := impl.LayTable(c.rows, c.aligns); got != c.want {
			t.Errorf("LayTable(%q, %v) = %q, want %q", c.rows, c.aligns, got, c.want)
		}
	}
}

func TestPromise47TablesAreEven(t *testing.T) {
	check := func(rows [][]string, aligns []int) {
		got := impl.LayTable(rows, aligns)
		if want := tableBy(rows, aligns); got != want {
			t.Fatalf("LayTable(%q, %v) = %q, want %q", rows, aligns, got, want)
		}
		lines := strings.SplitAfter(got, "\n")
		if len(lines) != len(rows)+1 || lines[len(rows)] != "" {
			t.Fatalf("LayTable(%q, %v) = %q", rows, aligns, got)
		}
		for _, line := range lines[:len(rows)] {
			if len(line) != len(lines[0]) {
				t.Fatalf("LayTable(%q, %v) = %q", rows, aligns, got)
			}
		}
	}
	eachTable(tableCells, func(rows [][]string) {
		if len(rows) == 0 {
			return
		}
		eachAligns(min(len(rows[0]), 3), func(aligns []int) {
			for len(aligns) < len(rows[0]) {
				aligns = append(aligns, aligns[len(aligns)-3]%3+1)
			}
			check(rows, aligns)
		})
	})
}

func TestLayTableRejects(t *testing.T) {
	check := func(rows [][]string, aligns []int) {
		t.Helper()
		if got := impl.LayTable(rows, aligns); got != "" {
			t.Errorf("LayTable(%q, %v) = %q", rows, aligns, got)
		}
	}
	for columns := range impl.MaxColumns + 2 {
		aligns := slices.Repeat([]int{impl.AlLeft}, columns)
		check(nil, aligns)
		check([][]string{}, aligns)
		for _, rows := range notTables() {
			check(rows, aligns)
		}
		for others := range impl.MaxColumns + 2 {
			if others != columns {
				check(tableOf(2, others, plainCells, 1), aligns)
			}
		}
		for at := range columns {
			for _, align := range notSides {
				bad := slices.Clone(aligns)
				bad[at] = align
				check(tableOf(2, columns, plainCells, 1), bad)
			}
		}
	}
	check([][]string{{}}, []int{impl.AlInside})
}

func TestReadTableExamples(t *testing.T) {
	wide := strings.Repeat("w", impl.MaxWidth)
	for _, c := range []struct {
		text string
		want [][]string
	}{
		{"|\n", [][]string{{}}},
		{"|\n|\n", [][]string{{}, {}}},
		{"||\n", [][]string{{""}}},
		{"|||\n", [][]string{{"", ""}}},
		{"| |   |\n", [][]string{{"", ""}}},
		{"|a|\n", [][]string{{"a"}}},
		{"| a  |  b|\n", [][]string{{"a", "b"}}},
		{"|a b|\n", [][]string{{"a b"}}},
		{"|a|bbb|\n|cc|d|\n", [][]string{{"a", "bbb"}, {"cc", "d"}}},
		{"|a  |bb|\n|ccc| d|\n", [][]string{{"a", "bb"}, {"ccc", "d"}}},
		{"|" + wide + "|\n", [][]string{{wide}}},
		{"| " + wide + " |\n", [][]string{{wide}}},
		{"|" + strings.Repeat(" ", 50) + "a" + strings.Repeat(" ", 50) + "|\n", [][]string{{"a"}}},
		{"|" + strings.Repeat(" ", 1000) + "|\n", [][]string{{""}}},
		{"|a|b|c|d|e|\n", [][]string{{"a", "b", "c", "d", "e"}}},
		{strings.Repeat("|x|\n", impl.MaxRows), tableOf(impl.MaxRows, 1, []string{"x"}, 0)},
	} {
		if got, ok := impl.ReadTable(c.text); !sameRows(got, c.want) || !ok {
			t.Errorf("ReadTable(%q) = %q, %v, want %q", c.text, got, ok, c.want)
		}
	}
}

func TestReadTableRejects(t *testing.T) {
	wide := strings.Repeat("w", impl.MaxWidth+1)
	for _, s := range []string{
		"", "\n", "\n\n", "|", "||", "|a|", "a", "a\n", "a|\n", "|a\n", "a|b\n", " \n", " |a|\n", "|a| \n", " |\n", "| \n",
		"|a|\n|b|", "|a|\n\n", "\n|a|\n", "|a|\n\n|b|\n", "|a|\n|b\n", "|a|\nb|\n", "|a|\r\n", "|a|\n\r", "|a|\n ", "|a|b\n",
		"|a|\n|b|c|\n", "|a|b|\n|c|\n", "|\n||\n", "||\n|\n", "|a|\n|\n",
		"|" + wide + "|\n", "|a|" + wide + "|\n", "|a|\n| " + wide + " |\n", "|a" + strings.Repeat(" ", impl.MaxWidth-1) + "b|\n",
		"|a|b|c|d|e|f|\n", "|||||||\n", strings.Repeat("|\n", impl.MaxRows+1), strings.Repeat("|x|\n", impl.MaxRows+1), strings.Repeat("|x|\n", 1000),
		"|\t|\n", "|\ta|\n", "|a\t|\n", "|a\x00|\n", "|\x7f|\n", "|\x1f|\n", "|é|\n", "|\u00a0|\n", "|\x80|\n", "|a\rb|\n", "|a\vb|\n",
	} {
		if got, ok := impl.ReadTable(s); got != nil || ok {
			t.Errorf("ReadTable(%q) = %q, %v", s, got, ok)
		}
	}
}

func TestPromise48TablesAreReadBack(t *testing.T) {
	eachTable(plainCells, func(rows [][]string) {
		if len(rows) == 0 {
			return
		}
		for seed := range 9 {
			aligns := []int{}
			for i := range rows[0] {
				aligns = append(aligns, sides[(seed/3*i+seed)%3])
			}
			lines := impl.LayTable(rows, aligns)
			if got, ok := impl.ReadTable(lines); !sameRows(got, rows) || !ok {
				t.Fatalf("ReadTable(%q) = %q, %v, want %q", lines, got, ok, rows)
			}
		}
	})
}

// checkReadTable checks ReadTable, and that what is read is a table.
func checkReadTable(t *testing.T, text string) {
	t.Helper()
	want, wantOK := rowsOf(text)
	rows, ok := impl.ReadTable(text)
	if !sameRows(rows, want) || ok != wantOK {
		t.Fatalf("ReadTable(%q) = %q, %v, want %q, %v", text, rows, ok, want, wantOK)
	}
	if !ok {
		return
	}
	for _, align := range sides {
		lines := impl.LayTable(rows, slices.Repeat([]int{align}, len(rows[0])))
		if back, ok := impl.ReadTable(lines); !sameRows(back, rows) || !ok {
			t.Fatalf("ReadTable(%q) = %q, %v, want %q of %q", lines, back, ok, rows, text)
		}
	}
}

func TestPromise49WhatIsReadIsATable(t *testing.T) {
	check := func(text string) { checkReadTable(t, text) }
	eachText("", "|a \n", 7, check)
	eachText("|", "|a \n\t", 5, check)
	eachText("|"+strings.Repeat("a", impl.MaxWidth-1), "|a \n", 5, check)
	eachText("|||||", "|a \n", 5, check)
	eachText(strings.Repeat("|a|\n", impl.MaxRows-1), "|a \n", 6, check)
	eachText(strings.Repeat("|\n", impl.MaxRows-1), "|\n", 5, check)
	for b := range 256 {
		one := string([]byte{byte(b)})
		for _, text := range []string{"|a|\n", "| a|b |\n|c|d|\n", "|\n"} {
			for at := range len(text) + 1 {
				check(text[:at] + one + text[at:])
			}
		}
	}
}

func TestTablesAreNotChanged(t *testing.T) {
	// The rows are parts of one array, so that one that is written to or grows shows in the next one.
	cells := []string{"a", "bb", "ccc", "", "e", "ffff"}
	rows := [][]string{cells[0:2], cells[2:4], cells[4:6]}
	aligns := []int{impl.AlRight, impl.AlCentre, impl.AlNone}
	before := cloneRows(rows)
	impl.WidthsOf(rows)
	if got := impl.LayTable(rows, aligns[:2]); got != "|  a| bb |\n|ccc|    |\n|  e|ffff|\n" {
		t.Errorf("LayTable(%q) = %q", rows, got)
	}
	if !sameRows(rows, before) || !slices.Equal(aligns, []int{impl.AlRight, impl.AlCentre, impl.AlNone}) {
		t.Errorf("the rows are %q now, the aligns %v", rows, aligns)
	}
}

func TestTablesShareNoMemory(t *testing.T) {
	text := "|a|b|\n|c|d|\n|e|f|\n"
	rows, _ := impl.ReadTable(text)
	for i := range rows {
		// This writes to what a row has behind its cells, too.
		all := rows[i][:cap(rows[i])]
		for j := range all {
			all[j] = "x" + string(rune('0'+i))
		}
	}
	if want := [][]string{{"x0", "x0"}, {"x1", "x1"}, {"x2", "x2"}}; !sameRows(rows, want) {
		t.Errorf("the rows of ReadTable(%q) are %q after each was written to", text, rows)
	}
	again, _ := impl.ReadTable(text)
	if want := [][]string{{"a", "b"}, {"c", "d"}, {"e", "f"}}; !sameRows(again, want) {
		t.Errorf("ReadTable(%q) = %q", text, again)
	}
	table := [][]string{{"a", "bb"}}
	impl.WidthsOf(table)[0] = 9
	if got := impl.WidthsOf(table); !slices.Equal(got, []int{1, 2}) {
		t.Errorf("WidthsOf(%q) = %v", table, got)
	}
}
