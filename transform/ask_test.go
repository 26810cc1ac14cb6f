package transform_test

import (
	"slices"
	"testing"

	"transom/api"
	"transom/sample"
	"transom/transform"
)

// given is what is handed in.
type given struct {
	t api.Table
	c api.Change
	l [][]api.Value
}

// roomy tells g in memory of its own, with room behind each list.
func (g given) roomy() given {
	return given{sample.RoomyTable(g.t), sample.RoomyChange(g.c), sample.RoomyRows(g.l)}
}

// kept tells whether g, which roomy told, is as it was.
func (g given) kept(was given) bool {
	return sample.KeptTable(g.t, was.t) && sample.KeptChange(g.c, was.c) && sample.KeptRows(g.l, was.l)
}

// copiedLists tells l with lists and rows of its own.
func copiedLists(l [][][]api.Value) [][][]api.Value {
	out := make([][][]api.Value, len(l))
	for i, rows := range l {
		out[i] = sample.CopiedRows(rows)
	}
	return out
}

// scribbleRows writes to all memory of l, and sees to it that no two of its rows share any.
func scribbleRows(t *testing.T, l [][]api.Value) {
	t.Helper()
	if !sample.RowsApart(l) {
		t.Error("two rows of the answer share memory")
	}
}

// askRow tells what Row answers; beside that it sees to it that Row changes nothing, that the answer shares no memory with what was handed in, and no two lists of it share any.
func askRow(t *testing.T, of api.Table, c api.Change, row []api.Value) ([][]api.Value, api.Errno) {
	t.Helper()
	was := given{of, c, list(row)}
	own := was.roomy()
	got, err := transform.Row(own.t, own.c, own.l[0])
	if !own.kept(was) {
		t.Errorf("what was handed in was changed: %+v to %+v", was, own)
	}
	answer := sample.CopiedRows(got)
	scribbleRows(t, got)
	if !own.kept(was) {
		t.Errorf("%+v: the answer shares memory with it", was)
	}
	if err != api.OK && len(answer) != 0 {
		t.Errorf("%+v: %+v beside the error %d", was, answer, err)
	}
	return answer, err
}

// askRows tells what Rows answers, and sees to the same.
func askRows(t *testing.T, of api.Table, c api.Change, l [][]api.Value) ([][][]api.Value, int, api.Errno) {
	t.Helper()
	was := given{of, c, l}
	own := was.roomy()
	got, place, err := transform.Rows(own.t, own.c, own.l)
	if !own.kept(was) {
		t.Errorf("what was handed in was changed: %+v to %+v", was, own)
	}
	answer := copiedLists(got)
	for i := range got {
		scribbleRows(t, got[i])
		if !alikeLists(got[i+1:], answer[i+1:]) {
			t.Errorf("%+v: two lists of the answer share memory", was)
		}
	}
	if !own.kept(was) {
		t.Errorf("%+v: the answer shares memory with it", was)
	}
	if err != api.OK && len(answer) != 0 {
		t.Errorf("%+v: %+v beside the error %d", was, answer, err)
	}
	return answer, place, err
}

// Rows that are one list, handed in twice, become rows that are not.
func TestOneRowTwice(t *testing.T) {
	own := row(3)
	for _, c := range []api.Change{
		adding("t", open("v", api.KindInt)), dropping("t", "c2"), retyping("t", "c1", api.KindText),
		splitting("t", "a", "b", "c1"), splitting("t", "a", "b"), merging("t", "u", "v"),
	} {
		got, _, err := transform.Rows(ints(1, 3), c, list(own, own, own))
		if err != api.OK {
			t.Fatalf("Rows of %+v = %d", c, err)
		}
		for i := range got {
			scribbleRows(t, got[i])
		}
		if !slices.Equal(own, row(3)) {
			t.Errorf("%+v: the answer shares memory with the row", c)
		}
	}
}

// What is handed in may be what a column's Default is: it is told by value.
func TestDefaultIsTold(t *testing.T) {
	for _, v := range sample.Some(api.KindBytes) {
		c := adding("t", with(col("v", api.KindBytes), v))
		wantRow(t, ints(1, 1), c, row(1), list(num(10), v))
	}
}
