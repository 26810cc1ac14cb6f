package transform_test

import (
	"slices"
	"testing"

	"transom/api"
	"transom/sample"
	"transom/transform"
)

// What stands behind the end of the lists that are handed in: a call that writes there is found out.
var (
	spareName  = "spare"
	spareCol   = api.Col{Name: "spare"}
	spareValue = api.Value{S: "spare"}
	spareRow   = []api.Value{{S: "spare row"}}
)

// same is the language's own ==.
func same[T comparable](a, b T) bool {
	return a == b
}

// given is what is handed in.
type given struct {
	t api.Table
	c api.Change
	l [][]api.Value
}

// roomy tells g in memory of its own, with room behind each list.
func (g given) roomy() given {
	own := given{g.t, g.c, make([][]api.Value, len(g.l))}
	own.t.Cols = sample.Roomy(g.t.Cols, spareCol)
	own.c.Names = sample.Roomy(g.c.Names, spareName)
	own.c.Def.Cols = sample.Roomy(g.c.Def.Cols, spareCol)
	for i, r := range g.l {
		own.l[i] = sample.Roomy(r, spareValue)
	}
	own.l = sample.Roomy(own.l, spareRow)
	return own
}

// kept tells whether g, which roomy told, is as it was.
func (g given) kept(was given) bool {
	for i, r := range g.l {
		if !sample.Kept(r, was.l[i], spareValue, same) {
			return false
		}
	}
	return sample.Kept(g.t.Cols, was.t.Cols, spareCol, same) &&
		sample.Kept(g.c.Names, was.c.Names, spareName, same) &&
		sample.Kept(g.c.Def.Cols, was.c.Def.Cols, spareCol, same) &&
		sample.Kept(g.l, was.l, spareRow, slices.Equal[[]api.Value])
}

// copiedRows tells l with rows of its own.
func copiedRows(l [][]api.Value) [][]api.Value {
	out := make([][]api.Value, len(l))
	for i, r := range l {
		out[i] = slices.Clone(r)
	}
	return out
}

// copiedLists tells l with lists and rows of its own.
func copiedLists(l [][][]api.Value) [][][]api.Value {
	out := make([][][]api.Value, len(l))
	for i, rows := range l {
		out[i] = copiedRows(rows)
	}
	return out
}

// scribbleRows writes to all memory of l's rows, and sees to it that none of it is another one's; then to l's own.
func scribbleRows(t *testing.T, l [][]api.Value) {
	t.Helper()
	answer := copiedRows(l)
	for i := range l {
		sample.Scribble(l[i], api.Value{S: "scribbled"})
		if !alikeRows(l[i+1:], answer[i+1:]) {
			t.Errorf("%+v: two rows of the answer share memory", answer)
		}
	}
	sample.Scribble(l, list(api.Value{S: "scribbled row"}))
}

// askRow tells what Row answers; beside that it sees to it that Row changes nothing, that the answer shares no memory with what was handed in, and no two lists of it share any.
func askRow(t *testing.T, of api.Table, c api.Change, row []api.Value) ([][]api.Value, api.Errno) {
	t.Helper()
	was := given{of, c, list(row)}
	own := was.roomy()
	got, err := transform.Row(own.t, own.c, own.l[0])
	if !own.kept(was) {
		t.Errorf("what was handed in was changed: %+v to %+v", was, own)
	}
	answer := copiedRows(got)
	scribbleRows(t, got)
	if !own.kept(was) {
		t.Errorf("%+v: the answer shares memory with it", was)
	}
	if err != api.OK && len(answer) != 0 {
		t.Errorf("%+v: %+v beside the error %d", was, answer, err)
	}
	return answer, err
}

// askRows tells what Rows answers, and sees to the same.
func askRows(t *testing.T, of api.Table, c api.Change, l [][]api.Value) ([][][]api.Value, int, api.Errno) {
	t.Helper()
	was := given{of, c, l}
	own := was.roomy()
	got, place, err := transform.Rows(own.t, own.c, own.l)
	if !own.kept(was) {
		t.Errorf("what was handed in was changed: %+v to %+v", was, own)
	}
	answer := copiedLists(got)
	for i := range got {
		scribbleRows(t, got[i])
		if !alikeLists(got[i+1:], answer[i+1:]) {
			t.Errorf("%+v: two lists of the answer share memory", was)
		}
	}
	if !own.kept(was) {
		t.Errorf("%+v: the answer shares memory with it", was)
	}
	if err != api.OK && len(answer) != 0 {
		t.Errorf("%+v: %+v beside the error %d", was, answer, err)
	}
	return answer, place, err
}

// Rows that are one list, handed in twice, become rows that are not.
func TestOneRowTwice(t *testing.T) {
	own := row(3)
	for _, c := range []api.Change{
		adding("t", open("v", api.KindInt)), dropping("t", "c2"), retyping("t", "c1", api.KindText),
		splitting("t", "a", "b", "c1"), splitting("t", "a", "b"), merging("t", "u", "v"),
	} {
		got, _, err := transform.Rows(ints(1, 3), c, list(own, own, own))
		if err != api.OK {
			t.Fatalf("Rows of %+v = %d", c, err)
		}
		for i := range got {
			scribbleRows(t, got[i])
		}
		if !slices.Equal(own, row(3)) {
			t.Errorf("%+v: the answer shares memory with the row", c)
		}
	}
}

// What is handed in may be what a column's Default is: it is told by value.
func TestDefaultIsTold(t *testing.T) {
	for _, v := range sample.Some(api.KindBytes) {
		c := adding("t", with(col("v", api.KindBytes), v))
		wantRow(t, ints(1, 1), c, row(1), list(num(10), v))
	}
}
