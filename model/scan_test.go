package model_test

import (
	"testing"

	"transom/api"
	"transom/sample"
	"transom/values"
)

// begins tells how a row's first values stand to those of l, as many as they are: -1, 0 or 1.
func begins(row, l []api.Value) int {
	for i, v := range l {
		if order := values.Cmp(row[i], v); order != 0 {
			return order
		}
	}
	return 0
}

// scanOf tells the rows that a scan asks for, by their values: one whose key begins with lo is not less than it, and one whose key begins with hi is not less than that.
func scanOf(rows [][]api.Value, lo, hi []api.Value, most int) [][]api.Value {
	var out [][]api.Value
	for _, row := range rows {
		if begins(row, lo) >= 0 && (len(hi) == 0 || begins(row, hi) < 0) && len(out) < most {
			out = append(out, row)
		}
	}
	return out
}

// grid tells rows whose keys are all of so many numbers from 0 to 2, in order; behind them stands a text.
func grid(keys int) (api.Table, [][]api.Value) {
	of := ints(keys, keys)
	of.Cols = append(of.Cols, open("said", api.KindText))
	rows := list[[]api.Value](nil)
	for range keys {
		var next [][]api.Value
		for _, row := range rows {
			for n := range 3 {
				next = append(next, append(append([]api.Value{}, row...), num(n)))
			}
		}
		rows = next
	}
	for i := range rows {
		rows[i] = append(rows[i], text("x"))
	}
	return renamed(of, "m"), rows
}

// bounds tells beginnings of keys of grid, and others between them, ahead of them and behind them.
func bounds(keys int) [][]api.Value {
	all := list[[]api.Value](nil)
	last := all
	for range keys {
		var next [][]api.Value
		for _, l := range last {
			for _, n := range list(-1, 0, 1, 3) {
				next = append(next, append(append([]api.Value{}, l...), num(n)))
			}
		}
		all, last = append(all, next...), next
	}
	return all
}

func TestScan(t *testing.T) {
	for keys := 1; keys <= 2; keys++ {
		of, rows := grid(keys)
		for i, l := range around(sheetOf(of, rows...)) {
			for _, lo := range bounds(keys) {
				for _, hi := range bounds(keys) {
					most := list(1, 2, len(rows)-1, len(rows), len(rows)+1, 64)[(i+len(lo)+3*len(hi))%6]
					wantRows(t, l, scanning("m", lo, hi, most), scanOf(rows, lo, hi, most)...)
				}
			}
		}
	}
}

// Keys of three columns, and parts of them.
func TestScanOfLongKeys(t *testing.T) {
	of, rows := grid(3)
	l := list(named("a", 1), sheetOf(of, rows...))
	for i, lo := range bounds(3) {
		for j, hi := range bounds(3) {
			if (i+j)%7 == 0 {
				wantRows(t, l, scanning("m", lo, hi, 64), scanOf(rows, lo, hi, 64)...)
			}
		}
	}
}

// As many as Max, and no more: of as many rows as there are, of one less, and one more.
func TestScanByMax(t *testing.T) {
	for count := range 6 {
		rows := rising(1, 2, count)
		for _, l := range around(sheetOf(renamed(ints(1, 2), "m"), rows...)) {
			for most := 1; most <= count+1; most++ {
				wantRows(t, l, scanning("m", nil, nil, most), rows[:min(most, count)]...)
			}
			wantRows(t, l, scanning("m", nil, nil, 64), rows...)
		}
	}
	for _, count := range list(63, 64, 65, 130) {
		rows := rising(1, 2, count)
		l := list(named("a"), sheetOf(renamed(ints(1, 2), "m"), rows...))
		for _, most := range list(1, 2, 62, 63, 64) {
			wantRows(t, l, scanning("m", nil, nil, most), rows[:min(most, count)]...)
			wantRows(t, l, scanning("m", rows[7][:1], nil, most), rows[7:min(7+most, count)]...)
			wantRows(t, l, scanning("m", rows[7][:1], rows[60][:1], most), rows[7:min(7+most, 60)]...)
		}
	}
}

// Bounds of which one is less than the other one, and of one alone.
func TestScanByWords(t *testing.T) {
	l := list(named("m", 1, 3, 5))
	for _, want := range []struct {
		lo, hi []api.Value
		rows   [][]api.Value
	}{
		{nil, nil, list(rowOf(1), rowOf(3), rowOf(5))},
		{list(num(3)), nil, list(rowOf(3), rowOf(5))},
		{nil, list(num(3)), list(rowOf(1))},
		{list(num(3)), list(num(5)), list(rowOf(3))},
		{list(num(3)), list(num(3)), nil},
		{list(num(5)), list(num(3)), nil},
		{list(num(6)), nil, nil},
		{nil, list(num(1)), nil},
		{nil, list(num(api.MinInt)), nil},
		{list(num(2)), list(num(6)), list(rowOf(3), rowOf(5))},
	} {
		wantRows(t, l, scanning("m", want.lo, want.hi, 64), want.rows...)
	}
	// Texts that begin one another are keys of their own.
	of := table("m", 1, col("k", api.KindText))
	words := list(list(text("")), list(text("a")), list(text("a\x00")), list(text("ab")), list(text("b")))
	s := sheetOf(of, words...)
	for i, lo := range words {
		for j, hi := range words {
			wantRows(t, list(s), scanning("m", lo, hi, 64), words[i:max(i, j)]...)
		}
		wantRows(t, list(s), scanning("m", lo, nil, 64), words[i:]...)
	}
}

// Of Lo and Hi the first one's error is told; and it is told of tables without rows, too.
func TestScanByWhatIsNoKey(t *testing.T) {
	of := renamed(ints(2, 4), "m")
	full := list(named("a", 1), sheetOf(of, keyed(2, 4, 1)))
	for _, l := range list(full, list(api.Sheet{Table: of}, named("x"))) {
		for _, no := range noBegins() {
			wantNot(t, l, scanning("m", no.l, nil, 1), no.err)
			wantNot(t, l, scanning("m", nil, no.l, 1), no.err)
			for _, other := range list(noBegin{list(null()), api.ErrType}, noBegin{list(text("\xff")), api.ErrText}, noBegin{list(sample.Bool(2)), api.ErrRange}) {
				wantNot(t, l, scanning("m", no.l, other.l, 64), no.err)
				wantNot(t, l, scanning("m", other.l, no.l, 64), other.err)
			}
			// Max is asked ahead of both.
			wantNot(t, l, scanning("m", no.l, no.l, 0), api.ErrArg)
		}
	}
}
