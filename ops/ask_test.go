package ops_test

import (
	"slices"
	"testing"

	"transom/api"
	"transom/ops"
	"transom/sample"
)

// askPut tells what Put answers; beside that it sees to it that Put changes nothing.
func askPut(t *testing.T, o api.Op) (string, api.Errno) {
	t.Helper()
	own := sample.RoomyOp(o)
	s, err := ops.Put(own)
	if !sample.KeptOp(own, o) {
		t.Errorf("Put changed %+v to %+v", o, own)
	}
	return s, err
}

// askPutChange tells what PutChange answers, and sees to the same.
func askPutChange(t *testing.T, c api.Change) (string, api.Errno) {
	t.Helper()
	own := sample.RoomyChange(c)
	s, err := ops.PutChange(own)
	if !sample.KeptChange(own, c) {
		t.Errorf("PutChange changed %+v to %+v", c, own)
	}
	return s, err
}

// ownChange tells c in memory of its own.
func ownChange(c api.Change) api.Change {
	c.Names = slices.Clone(c.Names)
	c.Def = sample.Copied(c.Def)
	return c
}

// scribble writes to all memory of an answer.
func scribble(c api.Change) {
	sample.Scribble(c.Names, "scribbled")
	sample.Scribble(c.Def.Cols, api.Col{Name: "scribbled"})
}

// askReadChange tells what ReadChange answers; beside that it sees to it that it answers the same again, once its answer was written to.
func askReadChange(t *testing.T, s string) (api.Change, string, api.Errno) {
	t.Helper()
	got, rest, err := ops.ReadChange(s)
	own := ownChange(got)
	scribble(got)
	if again, behind, fault := ops.ReadChange(s); !sample.ChangeAlike(again, own) || behind != rest || fault != err {
		t.Errorf("ReadChange(%q) = %+v, %q, %d, and then %+v, %q, %d", s, own, rest, err, again, behind, fault)
	}
	return own, rest, err
}

// askRead tells what Read answers; beside that it sees to it that no two of its lists share memory, and that it answers the same again, once its answer was written to.
func askRead(t *testing.T, s string) (api.Op, string, api.Errno) {
	t.Helper()
	got, rest, err := ops.Read(s)
	own := got
	own.Row, own.Lo, own.Hi, own.Change = slices.Clone(got.Row), slices.Clone(got.Lo), slices.Clone(got.Hi), ownChange(got.Change)
	scribble(got.Change)
	if !sample.RowsApart(list(got.Row, got.Lo, got.Hi)) {
		t.Errorf("Read(%q): two rows of the answer share memory", s)
	}
	if again, behind, fault := ops.Read(s); !sample.OpAlike(again, own) || behind != rest || fault != err {
		t.Errorf("Read(%q) = %+v, %q, %d, and then %+v, %q, %d", s, own, rest, err, again, behind, fault)
	}
	return own, rest, err
}

// wantPut holds Put of o against its bytes.
func wantPut(t *testing.T, o api.Op, want string) {
	t.Helper()
	if s, err := askPut(t, o); s != want || err != api.OK {
		t.Errorf("Put(%+v) = %q, %d, not %q", o, s, err, want)
	}
}

// wantNoPut holds Put of o against an error: beside it there are no bytes.
func wantNoPut(t *testing.T, o api.Op, want api.Errno) {
	t.Helper()
	if s, err := askPut(t, o); s != "" || err != want {
		t.Errorf("Put(%+v) = %q, %d, not %d", o, s, err, want)
	}
}

// wantPutChange holds PutChange of c against its bytes; and Put of what asks for c, too.
func wantPutChange(t *testing.T, c api.Change, want string) {
	t.Helper()
	if s, err := askPutChange(t, c); s != want || err != api.OK {
		t.Errorf("PutChange(%+v) = %q, %d, not %q", c, s, err, want)
	}
	wantPut(t, changing(c), "\x06\x00\x01\x00\x01\x00\x01\x00\x00"+want)
}

// wantNoPutChange holds PutChange of c against an error, and Put of what asks for c, too: beside it there are no bytes.
func wantNoPutChange(t *testing.T, c api.Change, want api.Errno) {
	t.Helper()
	if s, err := askPutChange(t, c); s != "" || err != want {
		t.Errorf("PutChange(%+v) = %q, %d, not %d", c, s, err, want)
	}
	wantNoPut(t, changing(c), want)
}

// wantRead holds Read of s against an op, and what is behind it.
func wantRead(t *testing.T, s string, want api.Op, behind string) {
	t.Helper()
	if got, rest, err := askRead(t, s); !sample.OpAlike(got, want) || rest != behind || err != api.OK {
		t.Errorf("Read(%q) = %+v, %q, %d, not %+v, %q", s, got, rest, err, want, behind)
	}
}

// wantNotRead holds Read of s against an error: beside it there is no op, and nothing behind.
func wantNotRead(t *testing.T, s string, want api.Errno) {
	t.Helper()
	if got, rest, err := askRead(t, s); !sample.OpAlike(got, api.Op{}) || rest != "" || err != want {
		t.Errorf("Read(%q) = %+v, %q, %d, not %d", s, got, rest, err, want)
	}
}

// wantReadChange holds ReadChange of s against a change, and what is behind it.
func wantReadChange(t *testing.T, s string, want api.Change, behind string) {
	t.Helper()
	if got, rest, err := askReadChange(t, s); !sample.ChangeAlike(got, want) || rest != behind || err != api.OK {
		t.Errorf("ReadChange(%q) = %+v, %q, %d, not %+v, %q", s, got, rest, err, want, behind)
	}
}

// wantNotReadChange holds ReadChange of s against an error, and Read of what asks for it, too: beside it there is no change, and nothing behind.
func wantNotReadChange(t *testing.T, s string, want api.Errno) {
	t.Helper()
	if got, rest, err := askReadChange(t, s); !sample.ChangeAlike(got, api.Change{}) || rest != "" || err != want {
		t.Errorf("ReadChange(%q) = %+v, %q, %d, not %d", s, got, rest, err, want)
	}
	wantNotRead(t, "\x06\x00\x01\x00\x01\x00\x01\x00\x00"+s, want)
}

// wantSame holds Same against an answer, whichever is the first, and sees to it that it changes nothing.
func wantSame(t *testing.T, a, b api.Op, want bool) {
	t.Helper()
	ownA, ownB := sample.RoomyOp(a), sample.RoomyOp(b)
	if ops.Same(ownA, ownB) != want || ops.Same(ownB, ownA) != want {
		t.Errorf("Same of %+v, %+v, or the other way round, is not %t", a, b, want)
	}
	if !sample.KeptOp(ownA, a) || !sample.KeptOp(ownB, b) {
		t.Errorf("Same changed %+v, %+v to %+v, %+v", a, b, ownA, ownB)
	}
}

// wantReplies holds Replies against an answer, whichever is the first, and sees to it that it changes nothing.
func wantReplies(t *testing.T, a, b api.Reply, want bool) {
	t.Helper()
	ownA, ownB := api.Reply{Err: a.Err, Rows: sample.RoomyRows(a.Rows)}, api.Reply{Err: b.Err, Rows: sample.RoomyRows(b.Rows)}
	if ops.Replies(ownA, ownB) != want || ops.Replies(ownB, ownA) != want {
		t.Errorf("Replies of %+v, %+v, or the other way round, is not %t", a, b, want)
	}
	if !sample.KeptRows(ownA.Rows, a.Rows) || !sample.KeptRows(ownB.Rows, b.Rows) {
		t.Errorf("Replies changed %+v, %+v to %+v, %+v", a, b, ownA, ownB)
	}
}
