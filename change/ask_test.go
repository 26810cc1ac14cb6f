package change_test

import (
	"testing"

	"transom/api"
	"transom/change"
	"transom/sample"
)

// call is Targets, or Apply.
type call func(l []api.Table, c api.Change) ([]api.Table, api.Errno)

// ask tells what f answers; beside that it sees to it that f changes nothing, that the answer shares no memory with what was handed in, and no two lists of it share any.
func ask(t *testing.T, f call, l []api.Table, c api.Change) ([]api.Table, api.Errno) {
	t.Helper()
	own, ownChange := sample.RoomyTables(l), sample.RoomyChange(c)
	got, err := f(own, ownChange)
	if !sample.KeptTables(own, l) || !sample.KeptChange(ownChange, c) {
		t.Errorf("what was handed in was changed: %+v, %+v to %+v, %+v", l, c, own, ownChange)
	}
	answer := copiedAll(got)
	if !sample.TablesApart(got) {
		t.Errorf("%+v, %+v: two lists of the answer share memory", l, c)
	}
	if !sample.KeptTables(own, l) || !sample.KeptChange(ownChange, c) {
		t.Errorf("%+v, %+v: the answer shares memory with them", l, c)
	}
	if err != api.OK && len(answer) != 0 {
		t.Errorf("%+v, %+v: %+v beside the error %d", l, c, answer, err)
	}
	return answer, err
}

// wantTo holds Targets of l and c against tables, and Apply against all of them: all tables that there are, without the sources, and by rising names.
func wantTo(t *testing.T, l []api.Table, c api.Change, to, all []api.Table) {
	t.Helper()
	if got, err := ask(t, change.Targets, l, c); !alikeAll(got, to) || err != api.OK {
		t.Errorf("Targets(%+v, %+v) = %+v, %d, not %+v", l, c, got, err, to)
	}
	if got, err := ask(t, change.Apply, l, c); !alikeAll(got, all) || err != api.OK {
		t.Errorf("Apply(%+v, %+v) = %+v, %d, not %+v", l, c, got, err, all)
	}
	if err := change.CheckAll(all); err != api.OK {
		t.Errorf("CheckAll(%+v) = %d", all, err)
	}
}

// wantNone holds Targets and Apply of l and c against an error.
func wantNone(t *testing.T, l []api.Table, c api.Change, want api.Errno) {
	t.Helper()
	if got, err := ask(t, change.Targets, l, c); err != want {
		t.Errorf("Targets(%+v, %+v) = %+v, %d, not %d", l, c, got, err, want)
	}
	if got, err := ask(t, change.Apply, l, c); err != want {
		t.Errorf("Apply(%+v, %+v) = %+v, %d, not %d", l, c, got, err, want)
	}
}
