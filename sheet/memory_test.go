package sheet_test

import (
	"slices"
	"testing"

	"transom/api"
	"transom/sample"
	"transom/sheet"
)

// answers tells the rows of what each call answers of s, to which a row is put, of whose lines the second is deleted, and with which u is merged.
func answers(t *testing.T, s, u api.Sheet, row []api.Value) [][][]api.Value {
	t.Helper()
	more, _, err := sheet.Put(s, row)
	less, gone := sheet.Delete(s, s.Lines[1].Key)
	merged, why := sheet.Merge(s, u)
	asWas, is := sheet.Delete(s, "")
	refused, _, no := sheet.Put(s, nil)
	if err != api.OK || !gone || why != api.OK || is || no != api.ErrType {
		t.Fatalf("%d, %t, %d, %t, %d", err, gone, why, is, no)
	}
	return list(sample.RowsIn(more.Lines), sample.RowsIn(less.Lines), sample.RowsIn(merged), sample.RowsIn(asWas.Lines), sample.RowsIn(refused.Lines), sheet.Range(s, "", "", 9))
}

// Rows end where they end: who appends to one does not write to the next.
func TestRowsAreCutOff(t *testing.T) {
	for _, rows := range answers(t, three(), sheetOf(plain(), rowsOf(0, 4)...), rowsOf(9)[0]) {
		was := sample.CopiedRows(rows)
		for i := range rows {
			if r := append(rows[i], text("more")); len(r) != 3 || !rowsAlike(rows, was) {
				t.Errorf("%+v, but %+v once one was appended to", was, rows)
			}
		}
	}
}

// Lines that have one row in memory become lines that have not: with each other, with the row that is put, and with another sheet's.
func TestOneRowOfMany(t *testing.T) {
	row := rowsOf(1)[0]
	s, u := keyed("a", "b", "c"), keyed("d")
	for i := range s.Lines {
		s.Lines[i].Row = row
	}
	u.Lines[0].Row = row
	for _, rows := range answers(t, s, u, row) {
		for i := range rows {
			if !slices.Equal(rows[i], rowsOf(1)[0]) {
				t.Errorf("%+v at %d", rows[i], i)
			}
		}
		scribbleRows(t, rows)
		if !slices.Equal(row, rowsOf(1)[0]) {
			t.Fatalf("%+v: the answer shares memory with it", row)
		}
	}
}
