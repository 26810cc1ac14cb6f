package change_test

import (
	"slices"
	"testing"

	"transom/api"
	"transom/change"
	"transom/sample"
)

// call is Targets, or Apply.
type call func(l []api.Table, c api.Change) ([]api.Table, api.Errno)

// spare is what stands behind the end of a list that is handed in: a call that writes there is found out.
const spare = "spare"

// roomy tells t's columns with room behind them.
func roomy(t api.Table) api.Table {
	t.Cols = sample.Roomy(t.Cols, api.Col{Name: spare})
	return t
}

// roomyAll tells l with room behind it, and behind each table's columns.
func roomyAll(l []api.Table) []api.Table {
	out := sample.Roomy(l, api.Table{Name: spare})
	for i, t := range l {
		out[i] = roomy(t)
	}
	return out
}

// roomyChange tells c with room behind its lists.
func roomyChange(c api.Change) api.Change {
	c.Def = roomy(c.Def)
	c.Names = sample.Roomy(c.Names, spare)
	return c
}

// kept tells whether t, which roomy told, is as it was.
func kept(t, was api.Table) bool {
	behind := t.Cols[len(t.Cols) : len(t.Cols)+2]
	return alike(t, was) && behind[0].Name == spare && behind[1].Name == spare
}

// keptAll tells whether l, which roomyAll told, is as it was.
func keptAll(l, was []api.Table) bool {
	behind := l[len(l) : len(l)+2]
	return slices.EqualFunc(l, was, kept) && behind[0].Name == spare && behind[1].Name == spare
}

// keptChange tells whether the lists of c, which roomyChange told, are as they were.
func keptChange(c, was api.Change) bool {
	behind := c.Names[len(c.Names) : len(c.Names)+2]
	return kept(c.Def, was.Def) && slices.Equal(c.Names, was.Names) && behind[0] == spare && behind[1] == spare
}

// ask tells what f answers; beside that it sees to it that f changes nothing, that the answer shares no memory with what was handed in, and no two lists of it share any.
func ask(t *testing.T, f call, l []api.Table, c api.Change) ([]api.Table, api.Errno) {
	t.Helper()
	own, ownChange := roomyAll(l), roomyChange(c)
	got, err := f(own, ownChange)
	if !keptAll(own, l) || !keptChange(ownChange, c) {
		t.Errorf("what was handed in was changed: %+v, %+v to %+v, %+v", l, c, own, ownChange)
	}
	answer := copiedAll(got)
	for i := range got {
		sample.Scribble(got[i].Cols, api.Col{Name: "scribbled"})
		if !alikeAll(got[i+1:], answer[i+1:]) {
			t.Errorf("%+v, %+v: two lists of the answer share memory", l, c)
		}
	}
	sample.Scribble(got, api.Table{Name: "scribbled"})
	if !keptAll(own, l) || !keptChange(ownChange, c) {
		t.Errorf("%+v, %+v: the answer shares memory with them", l, c)
	}
	if err != api.OK && len(answer) != 0 {
		t.Errorf("%+v, %+v: %+v beside the error %d", l, c, answer, err)
	}
	return answer, err
}

// wantTo holds Targets of l and c against tables, and Apply against all of them: all tables that there are, without the sources, and by rising names.
func wantTo(t *testing.T, l []api.Table, c api.Change, to, all []api.Table) {
	t.Helper()
	if got, err := ask(t, change.Targets, l, c); !alikeAll(got, to) || err != api.OK {
		t.Errorf("Targets(%+v, %+v) = %+v, %d, not %+v", l, c, got, err, to)
	}
	if got, err := ask(t, change.Apply, l, c); !alikeAll(got, all) || err != api.OK {
		t.Errorf("Apply(%+v, %+v) = %+v, %d, not %+v", l, c, got, err, all)
	}
	if err := change.CheckAll(all); err != api.OK {
		t.Errorf("CheckAll(%+v) = %d", all, err)
	}
}

// wantNone holds Targets and Apply of l and c against an error.
func wantNone(t *testing.T, l []api.Table, c api.Change, want api.Errno) {
	t.Helper()
	if got, err := ask(t, change.Targets, l, c); err != want {
		t.Errorf("Targets(%+v, %+v) = %+v, %d, not %d", l, c, got, err, want)
	}
	if got, err := ask(t, change.Apply, l, c); err != want {
		t.Errorf("Apply(%+v, %+v) = %+v, %d, not %d", l, c, got, err, want)
	}
}
