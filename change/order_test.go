package change_test

import (
	"math/rand"
	"slices"
	"sort"
	"testing"

	"transom/api"
	"transom/change"
	"transom/convert"
	"transom/names"
	"transom/sample"
	"transom/schema"
)

// Changes that have no fault where the tables are a, m and z, one of each Kind at least.
func right() []api.Change {
	return []api.Change{
		creating(renamed(each(), "c")),
		adding("a", with(col("w", api.KindInt), sample.Int(1))),
		dropping("m", "v"),
		retyping("z", "v", api.KindBytes),
		splitting("a", "b", "c", "v"),
		splitting("m", "m", "c"),
		merging("a", "m", "m"),
		merging("z", "a", "x"),
	}
}

// Changes that have one where the tables are a, m and z.
func wrong() []api.Change {
	return []api.Change{
		{}, {Kind: -1}, {Kind: 7},
		creating(api.Table{}), creating(ints(4, 9)), creating(renamed(each(), "m")),
		adding("x", open("w", api.KindInt)), adding("a", col("w", api.KindInt)), adding("a", open("v", api.KindInt)),
		dropping("", "v"), dropping("a", "k"), dropping("a", "x"),
		retyping("x", "v", api.KindBytes), retyping("a", "k", api.KindText), retyping("a", "v", api.KindReal),
		splitting("x", "b", "c"), splitting("a", "b", "b"), splitting("a", "", "b"), splitting("a", "m", "b"), splitting("a", "b", "c", "k"),
		merging("x", "a", "b"), merging("a", "a", "b"), merging("a", "m", ""), merging("a", "m", "z"),
	}
}

// Tables that CheckAll refuses: its error is told, whatever the change.
func TestTablesThatMayNotBe(t *testing.T) {
	changes := append(right(), wrong()...)
	for _, c := range changes {
		wantNone(t, many(17), c, api.ErrLimit)
		wantNone(t, tabled(many(17), 3, api.Table{}), c, api.ErrLimit)
		wantNone(t, append(named("a", "m", "z"), many(14)...), c, api.ErrLimit)
		wantNone(t, named("a", "m", "m", "z"), c, api.ErrTwice)
		wantNone(t, named("m", "a", "z"), c, api.ErrTwice)
		wantNone(t, named("a", "z", "m"), c, api.ErrTwice)
		wantNone(t, named("a", "a"), c, api.ErrTwice)
		for _, no := range refused() {
			wantNone(t, list(no.Table), c, no.Err)
			wantNone(t, append(named("a", "m", "z"), no.Table), c, no.Err)
			wantNone(t, append(list(no.Table), named("a", "m", "z")...), c, no.Err)
			wantNone(t, append(named("z", "m", "a"), no.Table), c, no.Err)
		}
	}
}

func TestOtherKinds(t *testing.T) {
	kinds := slices.Clone(farOff)
	for kind := 7; kind <= 600; kind++ {
		kinds = append(kinds, kind, -kind)
	}
	for _, kind := range kinds {
		wantNone(t, nil, whole(kind), api.ErrArg)
		wantNone(t, named("a", "b"), whole(kind), api.ErrArg)
		wantNone(t, named("x"), whole(kind), api.ErrArg) // and no table that it speaks of
		wantNone(t, many(16), api.Change{Kind: kind}, api.ErrArg)
	}
}

// Sources that are not there: told ahead of all other faults of the change.
func TestTablesThatAreNotThere(t *testing.T) {
	for _, l := range [][]api.Table{nil, named("a", "m", "z"), many(16)} {
		for _, name := range list("", "b", "A", "aa", "k", sample.TooLong, "\xff") {
			for _, c := range []api.Change{
				adding(name, open("w", api.KindInt)), adding(name, api.Col{}), adding(name, col("v", api.KindInt)),
				dropping(name, "v"), dropping(name, ""), dropping(name, "k"),
				retyping(name, "v", api.KindBytes), retyping(name, "", 0),
				splitting(name, "b", "c", "v"), splitting(name, "", ""), splitting(name, "m", "m", "k"),
				merging(name, "a", "b"), merging("a", name, "b"), merging(name, name, ""),
			} {
				wantNone(t, l, c, api.ErrTable)
			}
		}
	}
}

// A Change's other fields play no part: neither where they are in order, nor where they are not.
func TestOtherFields(t *testing.T) {
	l := named("a", "m", "z")
	changes := append(right(), wrong()...)
	others := []api.Change{
		whole(0),
		{Table: "a", Other: "m", To: "z", Also: "a", Name: "k", Type: 9, Names: list("k", "k"), Col: open("v", 9), Def: ints(9, 9)},
		{Table: "\xff", Other: sample.TooLong, To: "1", Also: "", Name: "\x00", Type: api.MinInt, Names: list("", ""), Def: renamed(plain(), "a")},
	}
	for _, c := range changes {
		for _, other := range others {
			d := sample.Junk(c, other)
			if a, b := change.Sources(c), change.Sources(d); !slices.Equal(a, b) {
				t.Errorf("Sources(%+v) = %q, not %q", d, b, a)
			}
			for _, f := range []call{change.Targets, change.Apply} {
				got, err := ask(t, f, l, c)
				more, why := ask(t, f, l, d)
				if !alikeAll(got, more) || err != why {
					t.Errorf("of %+v %+v, %d, but of %+v %+v, %d", c, got, err, d, more, why)
				}
			}
		}
	}
}

// wantTargets tells what promise 10.2 says, in other words: by what each Kind does to names and places.
func wantTargets(l []api.Table, c api.Change) ([]api.Table, api.Errno) {
	if err := change.CheckAll(l); err != api.OK {
		return nil, err
	}
	there := map[string]api.Table{}
	for _, t := range l {
		there[t.Name] = t
	}
	t, ok := there[c.Table]
	other, also := there[c.Other]
	var to []api.Table
	var err api.Errno
	gone := map[string]bool{c.Table: true}
	switch {
	case c.Kind < 1 || c.Kind > 6:
		return nil, api.ErrArg
	case c.Kind == api.ChangeCreate:
		gone = nil
		to, err = list(c.Def), schema.Check(c.Def)
	case !ok || c.Kind == api.ChangeMerge && !also:
		return nil, api.ErrTable
	case c.Kind == api.ChangeAdd:
		to, err = wantAdd(t, c.Col)
	case c.Kind == api.ChangeDrop, c.Kind == api.ChangeRetype:
		to, err = wantOther(t, c)
	case c.Kind == api.ChangeSplit:
		to, err = wantSplit(t, c)
	case c.Kind == api.ChangeMerge:
		gone[c.Other] = true
		to, err = wantMerge(t, other, c)
	}
	if err != api.OK {
		return nil, err
	}
	for _, t := range to {
		if _, ok := there[t.Name]; ok && !gone[t.Name] {
			return nil, api.ErrTwice
		}
	}
	return to, api.OK
}

func wantAdd(t api.Table, c api.Col) ([]api.Table, api.Errno) {
	if err := schema.CheckCol(c); err != api.OK {
		return nil, err
	}
	for _, d := range t.Cols {
		if c.Name == d.Name {
			return nil, api.ErrTwice
		}
	}
	if len(t.Cols) >= 8 {
		return nil, api.ErrLimit
	}
	if (c.Default == api.Value{}) && !c.Null {
		return nil, api.ErrType
	}
	return list(longer(t, c)), api.OK
}

// wantOther is of a drop and of a retype: which columns are there, one by one.
func wantOther(t api.Table, c api.Change) ([]api.Table, api.Errno) {
	to := table(t.Name, t.Keys)
	met := false
	for at, d := range t.Cols {
		if d.Name != c.Name {
			to.Cols = append(to.Cols, d)
			continue
		}
		if at < t.Keys {
			return nil, api.ErrColumn
		}
		met = true
		if c.Kind == api.ChangeDrop {
			continue
		}
		if !convert.Can(d.Kind, c.Type) {
			return nil, api.ErrKind
		}
		def, err := convert.To(d.Default, c.Type)
		if err != api.OK {
			def = api.Value{}
		}
		to.Cols = append(to.Cols, api.Col{Name: d.Name, Kind: c.Type, Null: d.Null, Default: def})
	}
	if !met {
		return nil, api.ErrColumn
	}
	return list(to), api.OK
}

func wantSplit(t api.Table, c api.Change) ([]api.Table, api.Errno) {
	if names.Check(c.To) != api.OK || names.Check(c.Also) != api.OK {
		return nil, api.ErrName
	}
	if c.To == c.Also {
		return nil, api.ErrTwice
	}
	times := map[string]int{}
	for _, name := range c.Names {
		times[name]++
	}
	to, also := table(c.To, t.Keys), table(c.Also, t.Keys)
	met := 0
	for at, d := range t.Cols {
		n := times[d.Name]
		met += n
		switch {
		case n > 1 || n == 1 && at < t.Keys:
			return nil, api.ErrColumn
		case at < t.Keys:
			to.Cols, also.Cols = append(to.Cols, d), append(also.Cols, d)
		case n == 1:
			to.Cols = append(to.Cols, d)
		default:
			also.Cols = append(also.Cols, d)
		}
	}
	if met != len(c.Names) {
		return nil, api.ErrColumn
	}
	return list(to, also), api.OK
}

func wantMerge(t, other api.Table, c api.Change) ([]api.Table, api.Errno) {
	if c.Table == c.Other {
		return nil, api.ErrTwice
	}
	if names.Check(c.To) != api.OK {
		return nil, api.ErrName
	}
	if t.Keys != other.Keys || !slices.Equal(t.Cols, other.Cols) {
		return nil, api.ErrType
	}
	return list(renamed(t, c.To)), api.OK
}

// wantApply tells what promise 10.2 says of Apply.
func wantApply(l []api.Table, c api.Change) ([]api.Table, api.Errno) {
	to, err := wantTargets(l, c)
	if err != api.OK {
		return nil, err
	}
	for _, t := range l {
		if c.Kind != api.ChangeCreate && t.Name == c.Table || c.Kind == api.ChangeMerge && t.Name == c.Other {
			continue
		}
		to = append(to, t)
	}
	if len(to) > 16 {
		return nil, api.ErrLimit
	}
	sort.Slice(to, func(i, j int) bool { return to[i].Name < to[j].Name })
	return to, api.OK
}

// Tables and changes of all kinds, faulty ones among them; and that CheckAll takes what Apply tells.
func TestManyChanges(t *testing.T) {
	r := rand.New(rand.NewSource(10))
	var told [8][api.ErrNone + 1]int
	for range 60000 {
		l := sample.AnyTables(r.Intn)
		c := sample.AnyChange(r.Intn, l)
		want, why := wantTargets(l, c)
		told[max(c.Kind, 0)][why]++
		if got, err := ask(t, change.Targets, l, c); !alikeAll(got, want) || err != why {
			t.Fatalf("Targets(%+v, %+v) = %+v, %d, not %+v, %d", l, c, got, err, want, why)
		}
		want, why = wantApply(l, c)
		got, err := ask(t, change.Apply, l, c)
		if !alikeAll(got, want) || err != why {
			t.Fatalf("Apply(%+v, %+v) = %+v, %d, not %+v, %d", l, c, got, err, want, why)
		}
		if err := change.CheckAll(got); err != api.OK {
			t.Fatalf("CheckAll(%+v) = %d", got, err)
		}
	}
	for kind, errs := range map[int][]api.Errno{
		0:                {api.ErrArg, api.ErrLimit, api.ErrTwice},
		api.ChangeCreate: {api.OK, api.ErrName, api.ErrLimit, api.ErrTwice},
		api.ChangeAdd:    {api.OK, api.ErrName, api.ErrLimit, api.ErrTwice, api.ErrTable, api.ErrType, api.ErrKind},
		api.ChangeDrop:   {api.OK, api.ErrColumn, api.ErrTable},
		api.ChangeRetype: {api.OK, api.ErrColumn, api.ErrTable, api.ErrKind},
		api.ChangeSplit:  {api.OK, api.ErrColumn, api.ErrTable, api.ErrName, api.ErrTwice},
		api.ChangeMerge:  {api.OK, api.ErrType, api.ErrTable, api.ErrName, api.ErrTwice},
	} {
		for _, err := range errs {
			if told[kind][err] < 20 {
				t.Errorf("Kind %d was told %d only %d times", kind, err, told[kind][err])
			}
		}
	}
}

// Many changes, one behind the other: what Apply tells is taken by CheckAll, and by the next change.
func TestChangesInARow(t *testing.T) {
	r := rand.New(rand.NewSource(103))
	for range 200 {
		var l []api.Table
		for range 200 {
			next, err := change.Apply(l, sample.AnyChange(r.Intn, l))
			if err != api.OK {
				continue
			}
			if err := change.CheckAll(next); err != api.OK {
				t.Fatalf("CheckAll(%+v) = %d", next, err)
			}
			l = next
		}
	}
}
