package sheet_test

import (
	"testing"

	"transom/api"
	"transom/sample"
	"transom/sheet"
)

// given is what is handed in: sheets, and a row.
type given struct {
	sheets []api.Sheet
	row    []api.Value
}

// roomy tells g in memory of its own, with room behind each list.
func (g given) roomy() given {
	return given{sample.RoomySheets(g.sheets), sample.RoomyRow(g.row)}
}

// kept tells whether g, which roomy told, is as it was.
func (g given) kept(was given) bool {
	return sample.KeptSheets(g.sheets, was.sheets) && sample.KeptRow(g.row, was.row)
}

// wantKept sees to it that g, which roomy told, is as it was; else it tells what was done.
func (g given) wantKept(t *testing.T, was given, done string) {
	t.Helper()
	if !g.kept(was) {
		t.Errorf("%s: %+v to %+v", done, was, g)
	}
}

// scribbleRows writes to all memory of l, and sees to it that no two of its rows share any.
func scribbleRows(t *testing.T, l [][]api.Value) {
	t.Helper()
	if !sample.RowsApart(l) {
		t.Error("two rows of the answer share memory")
	}
}

// scribble writes to all memory of s, and sees to it that no two of its lists share any.
func scribble(t *testing.T, s api.Sheet) {
	t.Helper()
	if !sample.SheetsApart(list(s)) {
		t.Error("two lists of the answer share memory")
	}
}

// askCheck tells what Check answers; beside that it sees to it that Check changes nothing.
func askCheck(t *testing.T, s api.Sheet) api.Errno {
	t.Helper()
	was := given{sheets: list(s)}
	own := was.roomy()
	err := sheet.Check(own.sheets[0])
	own.wantKept(t, was, "Check changed")
	return err
}

// askFind tells what Find answers, and sees to the same.
func askFind(t *testing.T, s api.Sheet, key string) (int, bool) {
	t.Helper()
	was := given{sheets: list(s)}
	own := was.roomy()
	at, is := sheet.Find(own.sheets[0], key)
	own.wantKept(t, was, "Find changed")
	return at, is
}

// askPut tells what Put answers; beside that it sees to it that Put changes nothing, that the answer shares no memory with what was handed in, and no two lists of it share any.
func askPut(t *testing.T, s api.Sheet, row []api.Value) (api.Sheet, bool, api.Errno) {
	t.Helper()
	was := given{list(s), row}
	own := was.roomy()
	got, fresh, err := sheet.Put(own.sheets[0], own.row)
	own.wantKept(t, was, "Put changed")
	answer := sample.CopiedSheet(got)
	scribble(t, got)
	own.wantKept(t, was, "Put's answer shares memory with what was handed in")
	return answer, fresh, err
}

// askDelete tells what Delete answers, and sees to the same.
func askDelete(t *testing.T, s api.Sheet, key string) (api.Sheet, bool) {
	t.Helper()
	was := given{sheets: list(s)}
	own := was.roomy()
	got, gone := sheet.Delete(own.sheets[0], key)
	own.wantKept(t, was, "Delete changed")
	answer := sample.CopiedSheet(got)
	scribble(t, got)
	own.wantKept(t, was, "Delete's answer shares memory with what was handed in")
	return answer, gone
}

// askRange tells what Range answers, and sees to the same.
func askRange(t *testing.T, s api.Sheet, lo, hi string, most int) [][]api.Value {
	t.Helper()
	was := given{sheets: list(s)}
	own := was.roomy()
	got := sheet.Range(own.sheets[0], lo, hi, most)
	own.wantKept(t, was, "Range changed")
	answer := sample.CopiedRows(got)
	scribbleRows(t, got)
	own.wantKept(t, was, "Range's answer shares memory with what was handed in")
	return answer
}

// askMerge tells what Merge answers, and sees to the same.
func askMerge(t *testing.T, a, b api.Sheet) ([]api.Line, api.Errno) {
	t.Helper()
	was := given{sheets: list(a, b)}
	own := was.roomy()
	got, err := sheet.Merge(own.sheets[0], own.sheets[1])
	own.wantKept(t, was, "Merge changed")
	answer := sample.CopiedLines(got)
	scribble(t, api.Sheet{Lines: got})
	own.wantKept(t, was, "Merge's answer shares memory with what was handed in")
	return answer, err
}

// wantCheck holds Check against an error.
func wantCheck(t *testing.T, s api.Sheet, want api.Errno) {
	t.Helper()
	if got := askCheck(t, s); got != want {
		t.Errorf("Check(%+v) = %d, not %d", s, got, want)
	}
}

// wantPlace holds Find against a place, and whether the key is there.
func wantPlace(t *testing.T, s api.Sheet, key string, want int, is bool) {
	t.Helper()
	if at, found := askFind(t, s, key); at != want || found != is {
		t.Errorf("Find(%+v, %q) = %d, %t, not %d, %t", s, key, at, found, want, is)
	}
}

// wantPut holds Put against a sheet, and whether the row is new.
func wantPut(t *testing.T, s api.Sheet, row []api.Value, want api.Sheet, fresh bool) {
	t.Helper()
	if got, is, err := askPut(t, s, row); !alike(got, want) || is != fresh || err != api.OK {
		t.Errorf("Put(%+v, %+v) = %+v, %t, %d, not %+v, %t", s, row, got, is, err, want, fresh)
	}
}

// wantNoPut holds Put against an error: the sheet is as it was.
func wantNoPut(t *testing.T, s api.Sheet, row []api.Value, want api.Errno) {
	t.Helper()
	if got, is, err := askPut(t, s, row); !alike(got, s) || is || err != want {
		t.Errorf("Put(%+v, %+v) = %+v, %t, %d, not %d", s, row, got, is, err, want)
	}
}

// wantDelete holds Delete against a sheet, and whether there was a line.
func wantDelete(t *testing.T, s api.Sheet, key string, want api.Sheet, gone bool) {
	t.Helper()
	if got, was := askDelete(t, s, key); !alike(got, want) || was != gone {
		t.Errorf("Delete(%+v, %q) = %+v, %t, not %+v, %t", s, key, got, was, want, gone)
	}
}

// wantRange holds Range against rows.
func wantRange(t *testing.T, s api.Sheet, lo, hi string, most int, want [][]api.Value) {
	t.Helper()
	if got := askRange(t, s, lo, hi, most); !rowsAlike(got, want) {
		t.Errorf("Range(%+v, %q, %q, %d) = %+v, not %+v", s, lo, hi, most, got, want)
	}
}

// wantMerge holds Merge against lines, whichever sheet is the first.
func wantMerge(t *testing.T, a, b api.Sheet, want []api.Line) {
	t.Helper()
	for _, two := range list(list(a, b), list(b, a)) {
		if got, err := askMerge(t, two[0], two[1]); !linesAlike(got, want) || err != api.OK {
			t.Errorf("Merge(%+v, %+v) = %+v, %d, not %+v", two[0], two[1], got, err, want)
		}
	}
}

// wantNoMerge holds Merge against ErrCollide, whichever sheet is the first.
func wantNoMerge(t *testing.T, a, b api.Sheet) {
	t.Helper()
	for _, two := range list(list(a, b), list(b, a)) {
		if got, err := askMerge(t, two[0], two[1]); len(got) != 0 || err != api.ErrCollide {
			t.Errorf("Merge(%+v, %+v) = %+v, %d, not %d", two[0], two[1], got, err, api.ErrCollide)
		}
	}
}
