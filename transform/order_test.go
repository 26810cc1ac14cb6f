package transform_test

import (
	"math/rand"
	"slices"
	"testing"

	"transom/api"
	"transom/change"
	"transom/convert"
	"transom/sample"
	"transom/schema"
)

// whole tells a change whose fields are all there, of a Kind; it speaks of t and u.
func whole(kind int) api.Change {
	return api.Change{
		Kind: kind, Table: "t", Other: "u", To: "a", Also: "b", Name: "c1", Type: api.KindText, Names: list("c2"),
		Col: open("w", api.KindInt), Def: renamed(plain(), "t"),
	}
}

// Changes that have a fault where t is ints(1, 3), or that are of no Kind that moves rows, and the error that a row is told that fits.
func wrong() []struct {
	c   api.Change
	err api.Errno
} {
	return []struct {
		c   api.Change
		err api.Errno
	}{
		{api.Change{}, api.ErrArg},
		{whole(0), api.ErrArg}, {whole(-1), api.ErrArg}, {whole(7), api.ErrArg}, {whole(api.ChangeCreate), api.ErrArg},
		{creating(ints(1, 3)), api.ErrArg}, {creating(api.Table{}), api.ErrArg},
		{adding("u", open("v", api.KindInt)), api.ErrArg}, {adding("", open("v", api.KindInt)), api.ErrArg}, {adding("T", api.Col{}), api.ErrArg},
		{dropping("u", "c1"), api.ErrArg}, {dropping("u", "c0"), api.ErrArg}, {dropping("c1", "c1"), api.ErrArg},
		{dropping("t", "c0"), api.ErrColumn}, {dropping("t", "c3"), api.ErrColumn}, {dropping("t", "t"), api.ErrColumn},
		{retyping("u", "c1", api.KindText), api.ErrArg}, {retyping("u", "c0", 9), api.ErrArg},
		{retyping("t", "c0", api.KindText), api.ErrColumn}, {retyping("t", "c3", api.KindText), api.ErrColumn},
		{retyping("t", "c1", 0), api.ErrKind}, {retyping("t", "c1", 6), api.ErrKind}, {retyping("t", "c1", -1), api.ErrKind},
		{retyping("t", "c0", 6), api.ErrColumn}, {retyping("t", "c3", 6), api.ErrColumn},
		{splitting("u", "t", "b", "c1"), api.ErrArg}, {splitting("", "a", "b"), api.ErrArg},
		{merging("u", "v", "t"), api.ErrArg}, {merging("", "", "t"), api.ErrArg}, {merging("tt", "T", "t"), api.ErrArg},
	}
}

// every tells all changes of right and of wrong.
func every() []api.Change {
	var l []api.Change
	for _, want := range right() {
		l = append(l, want.c)
	}
	for _, no := range wrong() {
		l = append(l, no.c)
	}
	return l
}

func TestWrongChanges(t *testing.T) {
	for _, no := range wrong() {
		wantNoRow(t, ints(1, 3), no.c, row(3), no.err)
	}
}

func TestOtherKinds(t *testing.T) {
	kinds := append(slices.Clone(farOff), api.ChangeCreate)
	for kind := 7; kind <= 600; kind++ {
		kinds = append(kinds, kind, -kind)
	}
	for _, kind := range kinds {
		wantNoRow(t, ints(1, 3), whole(kind), row(3), api.ErrArg)
		wantNoRow(t, renamed(ints(1, 3), "u"), whole(kind), row(3), api.ErrArg)
		wantNoRow(t, ints(1, 3), whole(kind), row(2), api.ErrType)
	}
}

// A table of another name: told ahead of what is wrong with the column and the value.
func TestOtherTables(t *testing.T) {
	for kind := api.ChangeAdd; kind <= api.ChangeMerge; kind++ {
		for _, name := range list("u", "a", "b", "v", "c1", "tt", sample.Longest) {
			c := whole(kind)
			c.Other, c.Name, c.Type = "other", "none", 9
			wantNoRow(t, renamed(ints(1, 3), name), c, row(3), api.ErrArg)
		}
		if _, err := askRow(t, ints(1, 3), whole(kind), row(3)); err != api.OK {
			t.Errorf("Row of %+v = %d", whole(kind), err)
		}
		if kind != api.ChangeMerge {
			wantNoRow(t, renamed(ints(1, 3), "u"), whole(kind), row(3), api.ErrArg)
		}
	}
}

// Tables that may not be: told ahead of all.
func TestTablesThatMayNotBe(t *testing.T) {
	for _, no := range refused() {
		for _, r := range list(nil, row(1), row(len(no.Table.Cols)), list(null()), list(sample.Bool(2))) {
			for _, c := range every() {
				wantNoRow(t, no.Table, c, r, no.Err)
				c.Table, c.Other = no.Table.Name, no.Table.Name
				wantNoRow(t, no.Table, c, r, no.Err)
			}
		}
	}
}

// Rows that do not fit: told ahead of all that is wrong with the change.
func TestRowsThatDoNotFit(t *testing.T) {
	of := ints(1, 3)
	for _, c := range every() {
		for count := range 12 {
			if count != 3 {
				wantNoRow(t, of, c, row(count), api.ErrType)
			}
		}
		for place := range 3 {
			wantNoRow(t, of, c, put(row(3), place, null()), api.ErrType)
			wantNoRow(t, of, c, put(row(3), place, text("1")), api.ErrType)
			for _, no := range sample.Refused() {
				wantNoRow(t, of, c, put(row(3), place, no.Value), no.Err)
				// Of two values the first is told.
				if place > 0 {
					wantNoRow(t, of, c, put(put(row(3), place, no.Value), 0, null()), api.ErrType)
				}
			}
		}
		// The wrong count ahead of a wrong value.
		wantNoRow(t, of, c, put(row(4), 0, sample.Bool(2)), api.ErrType)
		wantNoRow(t, of, c, put(row(2), 0, sample.Bool(2)), api.ErrType)
	}
}

// A Change's other fields play no part: neither where they are in order, nor where they are not.
func TestOtherFields(t *testing.T) {
	others := []api.Change{
		whole(0),
		{Table: "t", Other: "t", To: "t", Also: "t", Name: "c0", Type: 9, Names: list("c0", "c0", "c1"), Col: with(open("c1", 9), text("\xff")), Def: ints(9, 9)},
		{Table: "\xff", Other: sample.TooLong, To: "1", Name: "\x00", Type: api.MinInt, Names: list("", "c1", "c2"), Col: with(col("v", 2), num(77)), Def: ints(1, 3)},
	}
	rows := list(row(3), row(2), put(row(3), 1, num(1)), put(row(3), 2, num(0)), put(row(3), 1, text("x")))
	for _, name := range list("t", "u") {
		of := renamed(ints(1, 3), name)
		for _, c := range every() {
			for _, other := range others {
				d := sample.Junk(c, other)
				for _, r := range rows {
					got, err := askRow(t, of, c, r)
					more, why := askRow(t, of, d, r)
					if !alikeRows(got, more) || err != why {
						t.Errorf("of %+v %+v, %d, but of %+v %+v, %d", c, got, err, d, more, why)
					}
				}
				got, place, err := askRows(t, of, c, rows)
				more, there, why := askRows(t, of, d, rows)
				if !alikeLists(got, more) || place != there || err != why {
					t.Errorf("of %+v %+v, %d, %d, but of %+v %+v, %d, %d", c, got, place, err, d, more, there, why)
				}
			}
		}
	}
}

// mayBe tells what promise 11.1 says, in other words: by the names that each target has of t's columns.
func mayBe(t api.Table, c api.Change, row []api.Value) ([][]api.Value, api.Errno) {
	if err := schema.Fits(t, row); err != api.OK {
		return nil, err
	}
	if c.Kind < 2 || c.Kind > 6 || c.Table != t.Name && (c.Kind != 6 || c.Other != t.Name) {
		return nil, api.ErrArg
	}
	of := map[string]api.Value{}
	var key, all, less, named, others []string
	met := false
	for i, d := range t.Cols {
		of[d.Name] = row[i]
		all = append(all, d.Name)
		if i < t.Keys {
			key = append(key, d.Name)
			continue
		}
		if d.Name == c.Name {
			met = true
		} else {
			less = append(less, d.Name)
		}
		if slices.Contains(c.Names, d.Name) {
			named = append(named, d.Name)
		} else {
			others = append(others, d.Name)
		}
	}
	told := func(l ...string) []api.Value {
		var out []api.Value
		for _, name := range l {
			out = append(out, of[name])
		}
		return out
	}
	switch {
	case c.Kind == api.ChangeAdd:
		return list(append(told(all...), c.Col.Default)), api.OK
	case c.Kind == api.ChangeSplit:
		return list(told(slices.Concat(key, named)...), told(slices.Concat(key, others)...)), api.OK
	case c.Kind == api.ChangeMerge:
		return list(told(all...)), api.OK
	case !met:
		return nil, api.ErrColumn
	case c.Kind == api.ChangeDrop:
		return list(told(slices.Concat(key, less)...)), api.OK
	}
	v, err := convert.To(of[c.Name], c.Type)
	if err != api.OK {
		return nil, err
	}
	of[c.Name] = v
	return list(told(all...)), api.OK
}

// mayBeAll tells what promise 11.2 says of rows.
func mayBeAll(t api.Table, c api.Change, l [][]api.Value) ([][][]api.Value, int, api.Errno) {
	if len(l) == 0 && (c.Kind < 2 || c.Kind > 6) {
		return nil, 0, api.ErrArg
	}
	out := none(1)
	if c.Kind == api.ChangeSplit {
		out = none(2)
	}
	for place, r := range l {
		to, err := mayBe(t, c, r)
		if err != api.OK {
			return nil, place, err
		}
		for i, r := range to {
			out[i] = append(out[i], r)
		}
	}
	return out, 0, api.OK
}

// near tells values that become others of another kind more often than most do.
func near(kind int) []api.Value {
	switch kind {
	case api.KindInt:
		return list(num(0), num(1))
	case api.KindReal:
		return list(sample.Real(0), sample.Real(sample.One))
	case api.KindBytes:
		return list(sample.Bytes("12345678"), sample.Bytes("1"))
	case api.KindText:
		return list(text("1"), text("-20"), text("true"), text("false"))
	}
	return sample.Some(kind)
}

// anyRow tells a row that fits t, but for a fault now and then.
func anyRow(d sample.Dice, t api.Table) []api.Value {
	r := sample.AnyRow(d, t)
	for i := range r {
		if r[i].Kind != api.KindNull && d(2) == 0 {
			r[i] = sample.Pick(d, near(r[i].Kind))
		}
	}
	return sample.Spoilt(d, r)
}

// Tables, changes and rows of all kinds, faulty ones among them.
func TestManyRowsOfAllKinds(t *testing.T) {
	r := rand.New(rand.NewSource(11))
	var told [8][api.ErrNone + 1]int
	for range 15000 {
		all := sample.AnyTables(r.Intn)
		c := sample.AnyChange(r.Intn, all)
		at := change.Find(all, c.Table)
		if at < 0 || r.Intn(10) == 0 {
			all = append(all, sample.AnyTable(r.Intn, "t"))
			at = r.Intn(len(all))
		}
		of := all[at]
		l := make([][]api.Value, r.Intn(5))
		for i := range l {
			l[i] = anyRow(r.Intn, of)
			want, why := mayBe(of, c, l[i])
			told[max(c.Kind, 0)][why]++
			if got, err := askRow(t, of, c, l[i]); !alikeRows(got, want) || err != why {
				t.Fatalf("Row(%+v, %+v, %+v) = %+v, %d, not %+v, %d", of, c, l[i], got, err, want, why)
			}
		}
		want, place, why := mayBeAll(of, c, l)
		if got, there, err := askRows(t, of, c, l); !alikeLists(got, want) || there != place || err != why {
			t.Fatalf("Rows(%+v, %+v, %+v) = %+v, %d, %d, not %+v, %d, %d", of, c, l, got, there, err, want, place, why)
		}
	}
	for kind, errs := range map[int][]api.Errno{
		0:                {api.ErrArg, api.ErrType},
		api.ChangeCreate: {api.ErrArg, api.ErrType},
		api.ChangeAdd:    {api.OK, api.ErrArg, api.ErrType},
		api.ChangeDrop:   {api.OK, api.ErrArg, api.ErrType, api.ErrColumn},
		api.ChangeRetype: {api.OK, api.ErrArg, api.ErrType, api.ErrColumn, api.ErrKind, api.ErrRange, api.ErrText},
		api.ChangeSplit:  {api.OK, api.ErrArg, api.ErrType},
		api.ChangeMerge:  {api.OK, api.ErrArg, api.ErrType},
		7:                {api.ErrArg, api.ErrType},
	} {
		for _, err := range errs {
			if told[kind][err] < 20 {
				t.Errorf("Kind %d was told %d only %d times", kind, err, told[kind][err])
			}
		}
	}
}

// Promise 11.3: what a row that fits becomes fits the change's targets, one for each, and has the same key.
func TestRowsFitTheirTargets(t *testing.T) {
	r := rand.New(rand.NewSource(113))
	var told [7]int
	for range 25000 {
		all := sample.AnyTables(r.Intn)
		c := sample.AnyChange(r.Intn, all)
		targets, err := change.Targets(all, c)
		if err != api.OK || c.Kind == api.ChangeCreate {
			continue
		}
		for _, name := range change.Sources(c) {
			of := all[change.Find(all, name)]
			from := anyRow(r.Intn, of)
			key, why := schema.Key(of, from)
			rows, err := askRow(t, of, c, from)
			if why != api.OK {
				if err != why {
					t.Fatalf("Row(%+v, %+v, %+v) = %d, not %d", of, c, from, err, why)
				}
				continue
			}
			if err != api.OK && c.Kind != api.ChangeRetype {
				t.Fatalf("Row(%+v, %+v, %+v) = %d", of, c, from, err)
			}
			if err != api.OK {
				continue
			}
			told[c.Kind]++
			wantFit(t, targets, rows, key)
			lists, _, err := askRows(t, of, c, list(from, from))
			if len(lists) != len(targets) || err != api.OK {
				t.Fatalf("Rows(%+v, %+v, ...) = %+v, %d of %+v", of, c, lists, err, targets)
			}
		}
	}
	for kind := api.ChangeAdd; kind <= api.ChangeMerge; kind++ {
		if told[kind] < 300 {
			t.Errorf("Kind %d was met only %d times", kind, told[kind])
		}
	}
}

// wantFit holds rows against their targets, one for each, and against their key.
func wantFit(t *testing.T, targets []api.Table, rows [][]api.Value, key string) {
	t.Helper()
	if len(rows) != len(targets) {
		t.Fatalf("%d rows of %d targets", len(rows), len(targets))
	}
	for i, to := range targets {
		if err := schema.Fits(to, rows[i]); err != api.OK {
			t.Fatalf("%+v does not fit %+v: %d", rows[i], to, err)
		}
		if got, err := schema.Key(to, rows[i]); got != key || err != api.OK {
			t.Fatalf("the key of %+v in %+v = %q, %d, not %q", rows[i], to, got, err, key)
		}
	}
}

// Promise 11.3 of tables of each size, and each Kind of change of them.
func TestEachSizeFitsItsTargets(t *testing.T) {
	for keys, count := range sizes {
		of := ints(keys, count)
		other := renamed(of, "u")
		all := list(of, other)
		last := of.Cols[count-1].Name
		changes := list(adding("t", open("v", api.KindReal)), adding("t", with(col("v", api.KindText), text("d"))),
			splitting("t", "a", "b"), merging("t", "u", "a"), merging("u", "t", "u"))
		if keys < count {
			changes = append(changes, dropping("t", last), retyping("t", last, api.KindText), retyping("t", last, api.KindBytes),
				dropping("t", of.Cols[keys].Name), splitting("t", "a", "b", last), splitting("t", "a", "t", of.Cols[keys].Name))
		}
		for _, c := range changes {
			targets, err := change.Targets(all, c)
			if count == api.MaxCols && c.Kind == api.ChangeAdd {
				if err != api.ErrLimit {
					t.Errorf("Targets of %+v = %d", c, err)
				}
				continue
			}
			if err != api.OK {
				t.Fatalf("Targets of %+v = %d", c, err)
			}
			for _, name := range change.Sources(c) {
				u := all[change.Find(all, name)]
				key, _ := schema.Key(u, row(count))
				got, err := askRow(t, u, c, row(count))
				if err != api.OK {
					t.Fatalf("Row(%+v, %+v, ...) = %d", u, c, err)
				}
				wantFit(t, targets, got, key)
			}
		}
	}
}
