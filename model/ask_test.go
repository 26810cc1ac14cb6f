package model_test

import (
	"slices"
	"testing"

	"transom/api"
	"transom/model"
	"transom/sample"
)

// junk tells what fills the fields that a Kind does not have: what it holds is wrong for some Kind, or there.
func junk() api.Op {
	return api.Op{Table: "no such table", Row: list(text("\xff"), num(1), null()), Lo: list(text("\xff")), Hi: list(null(), null()), Max: -1, Change: creating(ints(0, 9))}
}

// replyAlike tells whether a and b are the same replies.
func replyAlike(a, b api.Reply) bool {
	return a.Err == b.Err && rowsAlike(a.Rows, b.Rows)
}

// copiedReplies tells l with rows of its own.
func copiedReplies(l []api.Reply) []api.Reply {
	l = slices.Clone(l)
	for i := range l {
		l[i].Rows = sample.CopiedRows(l[i].Rows)
	}
	return l
}

// scribble writes to all memory of an answer, and sees to it that no two of its lists share any.
func scribble(t *testing.T, l []api.Sheet, replies []api.Reply) {
	t.Helper()
	all := slices.Clone(l)
	var rows [][][]api.Value
	for _, reply := range replies {
		rows = append(rows, reply.Rows)
		told := api.Sheet{}
		for _, row := range reply.Rows {
			told.Lines = append(told.Lines, api.Line{Row: row})
		}
		all = append(all, told)
	}
	apart := sample.SheetsApart(all)
	if !sample.Apart(rows, list(text("scribbled row")), slices.Equal) || !apart {
		t.Error("two lists of the answer share memory")
	}
	sample.Scribble(l, api.Sheet{Table: api.Table{Name: "scribbled"}})
	sample.Scribble(replies, api.Reply{Err: -1})
}

// askRun tells what Run answers; beside that it sees to it that Run changes nothing, that the answer shares no memory with what was handed in, and no two lists of it share any.
func askRun(t *testing.T, l []api.Sheet, ops []api.Op) ([]api.Sheet, []api.Reply) {
	t.Helper()
	own, ownOps := sample.RoomySheets(l), sample.RoomyOps(ops)
	got, replies := model.Run(own, ownOps)
	if !sample.KeptSheets(own, l) || !sample.KeptOps(ownOps, ops) {
		t.Errorf("Run changed %+v, %+v to %+v, %+v", l, ops, own, ownOps)
	}
	answer, told := sample.CopiedSheets(got), copiedReplies(replies)
	scribble(t, got, replies)
	if !sample.KeptSheets(own, l) || !sample.KeptOps(ownOps, ops) {
		t.Errorf("Run(%+v, %+v): the answer shares memory with them", l, ops)
	}
	return answer, told
}

// askDo tells what Do answers, and sees to the same; and that Run tells the same of o alone.
func askDo(t *testing.T, l []api.Sheet, o api.Op) ([]api.Sheet, api.Reply) {
	t.Helper()
	own, ownOp := sample.RoomySheets(l), sample.RoomyOp(o)
	got, reply := model.Do(own, ownOp)
	if !sample.KeptSheets(own, l) || !sample.KeptOp(ownOp, o) {
		t.Errorf("Do changed %+v, %+v to %+v, %+v", l, o, own, ownOp)
	}
	answer, told := sample.CopiedSheets(got), copiedReplies(list(reply))
	scribble(t, got, list(reply))
	if !sample.KeptSheets(own, l) || !sample.KeptOp(ownOp, o) {
		t.Errorf("Do(%+v, %+v): the answer shares memory with them", l, o)
	}
	ran, replies := askRun(t, l, list(o))
	if !alike(ran, answer) || !slices.EqualFunc(replies, told, replyAlike) {
		t.Errorf("Run of %+v, %+v = %+v, %+v, but Do told %+v, %+v", l, o, ran, replies, answer, told)
	}
	return answer, told[0]
}

// askBounds tells what Bounds answers; beside that it sees to it that Bounds changes nothing.
func askBounds(t *testing.T, of api.Table, o api.Op) (string, string, api.Errno) {
	t.Helper()
	own, ownOp := sample.RoomyTable(of), sample.RoomyOp(o)
	lo, hi, err := model.Bounds(own, ownOp)
	if !sample.KeptTable(own, of) || !sample.KeptOp(ownOp, o) {
		t.Errorf("Bounds changed %+v, %+v to %+v, %+v", of, o, own, ownOp)
	}
	return lo, hi, err
}

// wantTold holds Do against what becomes of the tables, and the reply; with the fields that o's Kind does not have empty, and filled.
func wantTold(t *testing.T, l []api.Sheet, o api.Op, to []api.Sheet, want api.Reply) {
	t.Helper()
	other := sample.JunkOp(o, junk())
	if o.Kind == api.OpChange {
		other.Change = sample.Junk(o.Change, junkChange())
	}
	for _, o := range list(o, other) {
		if got, reply := askDo(t, l, o); !alike(got, to) || !replyAlike(reply, want) {
			t.Errorf("Do(%+v, %+v) = %+v, %+v, not %+v, %+v", l, o, got, reply, to, want)
		}
	}
}

// junkChange tells what fills the fields that a change's Kind does not have.
func junkChange() api.Change {
	return api.Change{Table: "t", Other: "t", To: "t", Also: "t", Name: "k", Type: -1, Names: list("k", "k"), Col: open("k", 9), Def: ints(9, 9)}
}

// wantRows holds Do of what only reads against its rows: the tables stay as they were.
func wantRows(t *testing.T, l []api.Sheet, o api.Op, rows ...[]api.Value) {
	t.Helper()
	wantTold(t, l, o, l, api.Reply{Rows: rows})
}

// wantDone holds Do of what writes against what becomes of the tables: no rows are told.
func wantDone(t *testing.T, l []api.Sheet, o api.Op, to []api.Sheet) {
	t.Helper()
	wantTold(t, l, o, to, api.Reply{})
}

// wantNot holds Do against an error: the tables stay as they were, and no rows are told.
func wantNot(t *testing.T, l []api.Sheet, o api.Op, want api.Errno) {
	t.Helper()
	wantTold(t, l, o, l, api.Reply{Err: want})
}

// wantRun holds Run against what becomes of the tables, and the replies.
func wantRun(t *testing.T, l []api.Sheet, ops []api.Op, to []api.Sheet, want []api.Reply) {
	t.Helper()
	if got, replies := askRun(t, l, ops); !alike(got, to) || !slices.EqualFunc(replies, want, replyAlike) {
		t.Errorf("Run(%+v, %+v) = %+v, %+v, not %+v, %+v", l, ops, got, replies, to, want)
	}
}

// wantBounds holds Bounds against both keys' bytes, whatever o's other fields are.
func wantBounds(t *testing.T, of api.Table, lo, hi []api.Value, low, high string) {
	t.Helper()
	for _, o := range list(api.Op{}, scanning("t", nil, nil, 1), junk()) {
		o.Lo, o.Hi = lo, hi
		if gotLo, gotHi, err := askBounds(t, of, o); gotLo != low || gotHi != high || err != api.OK {
			t.Errorf("Bounds(%+v, %+v) = %q, %q, %d, not %q, %q", of, o, gotLo, gotHi, err, low, high)
		}
	}
}

// wantNoBounds holds Bounds against an error.
func wantNoBounds(t *testing.T, of api.Table, lo, hi []api.Value, want api.Errno) {
	t.Helper()
	for _, o := range list(api.Op{}, scanning("t", nil, nil, 1), junk()) {
		o.Lo, o.Hi = lo, hi
		if gotLo, gotHi, err := askBounds(t, of, o); gotLo != "" || gotHi != "" || err != want {
			t.Errorf("Bounds(%+v, %+v) = %q, %q, %d, not %d", of, o, gotLo, gotHi, err, want)
		}
	}
}

// wantTables holds Tables against tables, and sees to its memory as askRun does.
func wantTables(t *testing.T, l []api.Sheet, want ...api.Table) {
	t.Helper()
	own := sample.RoomySheets(l)
	got := model.Tables(own)
	if !slices.EqualFunc(got, want, sample.Alike) {
		t.Errorf("Tables(%+v) = %+v, not %+v", l, got, want)
	}
	if !sample.TablesApart(got) || !sample.KeptSheets(own, l) {
		t.Errorf("Tables(%+v) changed it, or the answer shares memory with it, or within", l)
	}
}

// wantSame holds Same against an answer, whichever list is the first.
func wantSame(t *testing.T, a, b []api.Sheet, want bool) {
	t.Helper()
	ownA, ownB := sample.RoomySheets(a), sample.RoomySheets(b)
	if model.Same(ownA, ownB) != want || model.Same(ownB, ownA) != want {
		t.Errorf("Same of %+v, %+v, or the other way round, is not %t", a, b, want)
	}
	if !sample.KeptSheets(ownA, a) || !sample.KeptSheets(ownB, b) {
		t.Errorf("Same changed %+v, %+v to %+v, %+v", a, b, ownA, ownB)
	}
}
