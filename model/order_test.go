package model_test

import (
	"maps"
	"math/rand"
	"slices"
	"testing"

	"transom/api"
	"transom/change"
	"transom/model"
	"transom/sample"
	"transom/schema"
	"transom/sheet"
	"transom/transform"
)

// world is the tables in other words: by their names, and their rows by the bytes of their keys, in no order.
type world map[string]book

// book is a table, and its rows.
type book struct {
	of   api.Table
	rows map[string][]api.Value
}

// sheets tells w in order.
func (w world) sheets() []api.Sheet {
	var l []api.Sheet
	for _, name := range slices.Sorted(maps.Keys(w)) {
		s := api.Sheet{Table: w[name].of}
		for _, key := range slices.Sorted(maps.Keys(w[name].rows)) {
			s.Lines = append(s.Lines, api.Line{Key: key, Row: w[name].rows[key]})
		}
		l = append(l, s)
	}
	return l
}

// tables tells the tables of w in order.
func (w world) tables() []api.Table {
	var l []api.Table
	for _, s := range w.sheets() {
		l = append(l, s.Table)
	}
	return l
}

// rowsIn tells the rows of that table in order.
func (w world) rowsIn(name string) [][]api.Value {
	var rows [][]api.Value
	for _, key := range slices.Sorted(maps.Keys(w[name].rows)) {
		rows = append(rows, w[name].rows[key])
	}
	return rows
}

// do tells what promise 13.1 says of o, and makes it so.
func (w world) do(o api.Op) api.Reply {
	b, there := w[o.Table]
	switch {
	case o.Kind < 1 || o.Kind > 9 || o.Kind == api.OpScan && (o.Max <= 0 || 64 < o.Max):
		return failed(api.ErrArg)
	case o.Kind > api.OpChange:
		return failed(api.ErrState)
	case o.Kind == api.OpChange:
		return failed(w.change(o.Change))
	case !there:
		return failed(api.ErrTable)
	case o.Kind == api.OpScan:
		return w.scan(b.of, o)
	}
	return b.ask(o)
}

// scan tells what it says of an OpScan.
func (w world) scan(of api.Table, o api.Op) api.Reply {
	for _, l := range list(o.Lo, o.Hi) {
		if err := schema.FitsKey(of, l, false); err != api.OK {
			return failed(err)
		}
	}
	return told(scanOf(w.rowsIn(of.Name), o.Lo, o.Hi, o.Max)...)
}

// ask tells what it says of one row.
func (b book) ask(o api.Op) api.Reply {
	var err api.Errno
	whole := o.Row
	if o.Kind == api.OpGet || o.Kind == api.OpDelete {
		err = schema.FitsKey(b.of, o.Row, true)
	} else {
		err = schema.Fits(b.of, o.Row)
	}
	if err != api.OK {
		return failed(err)
	}
	// Of a key alone: a row of it, where all else is as it may be.
	for _, c := range b.of.Cols[len(whole):] {
		whole = append(slices.Clone(whole), sample.Some(c.Kind)[0])
	}
	key, _ := schema.Key(b.of, whole)
	row, there := b.rows[key]
	switch {
	case o.Kind == api.OpGet && there:
		return told(row)
	case o.Kind == api.OpGet:
		return told()
	case o.Kind == api.OpInsert && there:
		return failed(api.ErrDup)
	case o.Kind != api.OpInsert && !there:
		return failed(api.ErrNoRow)
	case o.Kind == api.OpDelete:
		delete(b.rows, key)
	default:
		b.rows[key] = o.Row
	}
	return told()
}

// change tells what it says of an OpChange: row by row.
func (w world) change(c api.Change) api.Errno {
	if _, err := change.Apply(w.tables(), c); err != api.OK {
		return err
	}
	targets, _ := change.Targets(w.tables(), c)
	made := make([]book, len(targets))
	for i, to := range targets {
		made[i] = book{to, map[string][]api.Value{}}
	}
	for _, name := range change.Sources(c) {
		for _, row := range w.rowsIn(name) {
			rows, err := transform.Row(w[name].of, c, row)
			if err != api.OK {
				return err
			}
			for i, row := range rows {
				key, _ := schema.Key(targets[i], row)
				if _, there := made[i].rows[key]; there {
					return api.ErrCollide
				}
				made[i].rows[key] = row
			}
		}
	}
	for _, name := range change.Sources(c) {
		delete(w, name)
	}
	for _, b := range made {
		w[b.of.Name] = b
	}
	return api.OK
}

// wantMay sees to it that l may be: sheets that may be, by rising names, as many as may be.
func wantMay(t *testing.T, l []api.Sheet) {
	t.Helper()
	if err := change.CheckAll(model.Tables(l)); err != api.OK {
		t.Fatalf("%+v: tables that may not be: %d", l, err)
	}
	for _, s := range l {
		if err := sheet.Check(s); err != api.OK {
			t.Fatalf("%+v: a sheet that may not be: %d", s, err)
		}
	}
}

// anyOp tells what may be asked. Beside what AnyOp tells it asks more often for a first table; and now and then for one like another one, and for a merge of two such.
func anyOp(d sample.Dice, l []api.Sheet) api.Op {
	if len(l) == 0 && d(3) == 0 {
		return changing(creating(sample.AnyTable(d, sample.Pick(d, sample.TableNames()))))
	}
	if len(l) == 0 || d(6) > 0 {
		return sample.AnyOp(d, l)
	}
	of := sample.Pick(d, l).Table
	if d(2) == 0 {
		return changing(creating(renamed(of, sample.Pick(d, sample.TableNames()))))
	}
	for _, s := range l {
		if s.Table.Name != of.Name && sample.Alike(renamed(s.Table, of.Name), of) {
			return changing(merging(of.Name, s.Table.Name, sample.Pick(d, sample.TableNames())))
		}
	}
	return sample.AnyOp(d, l)
}

// Long runs of all that may be asked, faulty things among it, held against maps: one by one, and all at once.
func TestManyRuns(t *testing.T) {
	r := rand.New(rand.NewSource(13))
	var kinds, changes [12][api.ErrNone + 1]int
	for range 250 {
		w := world{}
		var l []api.Sheet
		var ops []api.Op
		var replies []api.Reply
		for range 80 {
			o := anyOp(r.Intn, l)
			want := w.do(o)
			got, reply := askDo(t, l, o)
			if !alike(got, w.sheets()) || !replyAlike(reply, want) {
				t.Fatalf("Do(%+v, %+v) = %+v, %+v, not %+v, %+v", l, o, got, reply, w.sheets(), want)
			}
			wantMay(t, got)
			wantSame(t, got, l, want.Err != api.OK || alike(got, l))
			l, ops, replies = got, append(ops, o), append(replies, reply)
			kinds[max(min(o.Kind, 10), 0)][reply.Err]++
			if o.Kind == api.OpChange {
				changes[max(min(o.Change.Kind, 7), 0)][reply.Err]++
			}
		}
		wantRun(t, nil, ops, l, replies)
	}
	wantMet(t, "Kind", kinds[:], map[int][]api.Errno{
		0:            {api.ErrArg},
		api.OpGet:    {api.OK, api.ErrTable, api.ErrType},
		api.OpScan:   {api.OK, api.ErrArg, api.ErrTable, api.ErrType},
		api.OpInsert: {api.OK, api.ErrTable, api.ErrType, api.ErrDup},
		api.OpUpdate: {api.OK, api.ErrTable, api.ErrType, api.ErrNoRow},
		api.OpDelete: {api.OK, api.ErrTable, api.ErrType, api.ErrNoRow},
		api.OpBegin:  {api.ErrState},
		api.OpCommit: {api.ErrState},
		api.OpAbort:  {api.ErrState},
		10:           {api.ErrArg},
	})
	wantMet(t, "Kind of a change", changes[:], map[int][]api.Errno{
		0:                {api.ErrArg},
		api.ChangeCreate: {api.OK, api.ErrTwice},
		api.ChangeAdd:    {api.OK, api.ErrTable, api.ErrTwice},
		api.ChangeDrop:   {api.OK, api.ErrTable, api.ErrColumn},
		api.ChangeRetype: {api.OK, api.ErrTable, api.ErrColumn, api.ErrKind, api.ErrText},
		api.ChangeSplit:  {api.OK, api.ErrTable, api.ErrTwice},
		api.ChangeMerge:  {api.OK, api.ErrTable, api.ErrTwice, api.ErrType, api.ErrCollide},
		7:                {api.ErrArg},
	})
}

// wantMet sees to it that each of those errors was told often enough of each Kind.
func wantMet(t *testing.T, what string, met [][api.ErrNone + 1]int, want map[int][]api.Errno) {
	t.Helper()
	for kind, errs := range want {
		for _, err := range errs {
			if met[kind][err] < 10 {
				t.Errorf("%s %d was told %d only %d times", what, kind, err, met[kind][err])
			}
		}
	}
}
