package schema_test

import (
	"math/rand"
	"strings"
	"testing"

	"transom/api"
	"transom/names"
	"transom/sample"
	"transom/schema"
	"transom/values"
)

// Columns, and what CheckCol says of them.
var cols = []struct {
	c   api.Col
	err api.Errno
}{
	{col("k", api.KindInt), api.OK}, // the chapter's example
	{open("v", api.KindText), api.OK},
	{col("a_1", api.KindBool), api.OK},
	{open(longest, api.KindReal), api.OK},
	{with(col("a", api.KindInt), sample.Int(0)), api.OK},
	{with(col("a", api.KindText), sample.Text("")), api.OK},
	{with(col("a", api.KindText), sample.Text(strings.Repeat("t", 64))), api.OK},
	{with(col("a", api.KindReal), sample.Real(sample.TheNaN)), api.OK},

	{col("", api.KindInt), api.ErrName},
	{col("1a", api.KindInt), api.ErrName},
	{col("A", api.KindInt), api.ErrName},
	{col("a b", api.KindInt), api.ErrName},
	{open(tooLong, api.KindInt), api.ErrName},
	{api.Col{}, api.ErrName},

	{col("a", api.KindNull), api.ErrKind},
	{open("a", api.KindNull), api.ErrKind},
	{col("a", 6), api.ErrKind},
	{open("a", -1), api.ErrKind},

	{with(col("a", api.KindInt), sample.Bool(0)), api.ErrType},
	{with(col("a", api.KindInt), sample.Real(0)), api.ErrType},
	{with(col("a", api.KindBool), sample.Int(0)), api.ErrType},
	{with(col("a", api.KindText), sample.Bytes("x")), api.ErrType},
	{with(open("a", api.KindBytes), sample.Text("x")), api.ErrType},

	// Two faults at once.
	{col("", api.KindNull), api.ErrName},
	{with(col("", api.KindInt), sample.Bool(2)), api.ErrName},
	{with(col("_", api.KindInt), sample.Text("x")), api.ErrName},
	{with(col("a", 6), api.Value{Kind: 6}), api.ErrKind},
	{with(col("a", 6), sample.Bool(2)), api.ErrKind},
	{with(col("a", api.KindNull), sample.Int(1)), api.ErrKind},
	{with(col("a", 6), sample.Text("\xff")), api.ErrKind},
	{with(col("a", api.KindInt), sample.Bool(2)), api.ErrRange},
	{with(col("a", api.KindBytes), sample.Text("\xff")), api.ErrText},
	{with(col("a", api.KindInt), sample.Bytes(strings.Repeat("o", 65))), api.ErrLimit},
	{with(col("a", api.KindInt), api.Value{N: 1}), api.ErrForm},
	{with(col("a", api.KindInt), api.Value{Kind: 6}), api.ErrKind},
}

func TestCheckCol(t *testing.T) {
	for _, want := range cols {
		if err := schema.CheckCol(want.c); err != want.err {
			t.Errorf("CheckCol(%+v) = %d, not %d", want.c, err, want.err)
		}
	}
}

func TestCheckColOfEachKind(t *testing.T) {
	for kind := -300; kind <= 600; kind++ {
		want := api.ErrKind
		if kind >= 1 && kind <= 5 {
			want = api.OK
		}
		for _, null := range []bool{false, true} {
			c := api.Col{Name: "a", Kind: kind, Null: null}
			if err := schema.CheckCol(c); err != want {
				t.Errorf("CheckCol(%+v) = %d, not %d", c, err, want)
			}
		}
	}
	for _, kind := range farOff {
		if err := schema.CheckCol(col("a", kind)); err != api.ErrKind {
			t.Errorf("CheckCol of Kind %d = %d, not ErrKind", kind, err)
		}
	}
}

// A Default of each kind in a column of each kind, Null and not.
func TestCheckColOfEachDefault(t *testing.T) {
	for _, kind := range kinds {
		for def := api.KindNull; def <= api.KindText; def++ {
			want := api.ErrType
			if def == kind || def == api.KindNull {
				want = api.OK
			}
			for _, v := range some(def) {
				for _, c := range []api.Col{col("a", kind), open("a", kind)} {
					if err := schema.CheckCol(with(c, v)); err != want {
						t.Errorf("CheckCol(%+v) = %d, not %d", with(c, v), err, want)
					}
				}
			}
		}
	}
}

// A Default that may not be has its own error ahead of ErrType, whatever the column's kind.
func TestCheckColOfDefaultsThatMayNotBe(t *testing.T) {
	for _, wrong := range sample.Refused() {
		for _, kind := range kinds {
			for _, c := range []api.Col{col("a", kind), open("a", kind)} {
				if err := schema.CheckCol(with(c, wrong.Value)); err != wrong.Err {
					t.Errorf("CheckCol(%+v) = %d, not %d", with(c, wrong.Value), err, wrong.Err)
				}
			}
		}
	}
}

func TestCheckOfTables(t *testing.T) {
	for _, u := range good() {
		if err := schema.Check(u); err != api.OK {
			t.Errorf("Check(%+v) = %d", u, err)
		}
	}
}

// bad holds what is no table, and Check's error of it.
var bad = []struct {
	t   api.Table
	err api.Errno
}{
	{api.Table{}, api.ErrName},
	{renamed(plain(), ""), api.ErrName},
	{renamed(plain(), "1a"), api.ErrName},
	{renamed(plain(), "T"), api.ErrName},
	{renamed(plain(), "t "), api.ErrName},
	{renamed(plain(), tooLong), api.ErrName},

	{table("t", 1), api.ErrLimit},
	{table("t", 0), api.ErrLimit},
	{ints(1, 9), api.ErrLimit},
	{ints(3, 9), api.ErrLimit},
	{ints(1, 10), api.ErrLimit},
	{ints(1, 257), api.ErrLimit},

	{ints(0, 1), api.ErrArg},
	{ints(2, 1), api.ErrArg},
	{ints(3, 2), api.ErrArg},
	{ints(4, 3), api.ErrArg},
	{ints(4, 4), api.ErrArg},
	{ints(4, 8), api.ErrArg},
	{ints(8, 8), api.ErrArg},

	{table("t", 1, col("", api.KindInt)), api.ErrName},
	{changed(ints(1, 8), 7, col(tooLong, api.KindInt)), api.ErrName},
	{table("t", 1, col("k", api.KindNull)), api.ErrKind},
	{changed(ints(3, 8), 7, open("c", 6)), api.ErrKind},
	{changed(ints(1, 2), 1, with(col("c", api.KindBool), sample.Bool(2))), api.ErrRange},
	{changed(ints(1, 2), 1, with(col("c", api.KindText), sample.Text("\xff"))), api.ErrText},
	{changed(ints(1, 2), 1, with(col("c", api.KindText), sample.Bytes("x"))), api.ErrType},

	{table("t", 1, col("k", api.KindInt), col("k", api.KindInt)), api.ErrTwice},
	{table("t", 1, col("k", api.KindInt), open("k", api.KindText)), api.ErrTwice},
	{changed(ints(1, 8), 7, col("c0", api.KindBool)), api.ErrTwice},
	{changed(ints(1, 8), 7, col("c6", api.KindBool)), api.ErrTwice},
	{changed(ints(3, 3), 2, col("c1", api.KindInt)), api.ErrTwice},

	{table("t", 1, open("k", api.KindInt)), api.ErrType},
	{changed(ints(3, 8), 0, open("k", api.KindInt)), api.ErrType},
	{changed(ints(3, 8), 1, open("k", api.KindInt)), api.ErrType},
	{changed(ints(3, 8), 2, open("k", api.KindInt)), api.ErrType},

	// Two faults at once: the one that is asked for first is told.
	{table("", 1), api.ErrName},
	{renamed(ints(1, 9), "T"), api.ErrName},
	{renamed(ints(0, 1), "T"), api.ErrName},
	{table("T", 1, col("k", 6)), api.ErrName},
	{table("T", 1, open("k", api.KindInt)), api.ErrName},
	{ints(0, 9), api.ErrLimit},
	{ints(4, 9), api.ErrLimit},
	{ints(-1, 0), api.ErrLimit},
	{changed(ints(1, 9), 0, col("", api.KindInt)), api.ErrLimit},
	{changed(ints(1, 9), 8, col("c0", api.KindInt)), api.ErrLimit},
	{table("t", 0, col("", api.KindInt)), api.ErrArg},
	{table("t", 2, col("k", 6)), api.ErrArg},
	{table("t", 4, col("k", api.KindInt), col("k", api.KindInt)), api.ErrArg},
	{table("t", 2, open("k", api.KindInt)), api.ErrArg},
	{table("t", 1, col("k", 6), col("", api.KindInt)), api.ErrKind},
	{table("t", 1, col("", api.KindInt), col("k", 6)), api.ErrName},
	{table("t", 1, with(col("k", api.KindInt), sample.Bool(2)), col("c", 6)), api.ErrRange},
	{table("t", 1, with(col("k", api.KindInt), sample.Bool(1)), col("", 6)), api.ErrType},
	{table("t", 2, col("k", api.KindInt), col("k", api.KindInt), col("c", 6)), api.ErrKind},
	{table("t", 1, col("k", 6), col("k", 6)), api.ErrKind},
	{table("t", 1, open("k", api.KindInt), col("c", 6)), api.ErrKind},
	{table("t", 1, open("k", api.KindInt), col("", api.KindInt)), api.ErrName},
	{table("t", 2, open("k", api.KindInt), open("k", api.KindInt)), api.ErrTwice},
	{table("t", 1, open("k", api.KindInt), col("c", api.KindInt), col("c", api.KindInt)), api.ErrTwice},
}

func TestCheckOfWhatIsNoTable(t *testing.T) {
	for _, want := range bad {
		if err := schema.Check(want.t); err != want.err {
			t.Errorf("Check(%+v) = %d, not %d", want.t, err, want.err)
		}
	}
}

// The chapter's table with its key column Null is none; with a Null column right behind the key's it is one.
func TestCheckOfNullAtEachPlace(t *testing.T) {
	for count := 1; count <= api.MaxCols; count++ {
		for keys := 1; keys <= min(count, api.MaxKeys); keys++ {
			for at := range count {
				u := ints(keys, count)
				u.Cols[at].Null = true
				want := api.OK
				if at < keys {
					want = api.ErrType
				}
				if err := schema.Check(u); err != want {
					t.Errorf("Check, Null at %d of %d, %d Keys = %d, not %d", at, count, keys, err, want)
				}
			}
		}
	}
}

// Each number of columns with each of Keys.
func TestCheckOfEachKeys(t *testing.T) {
	for count := 0; count <= 300; count++ {
		for keys := -2; keys <= 12; keys++ {
			want := api.OK
			switch {
			case count == 0 || count > 8:
				want = api.ErrLimit
			case keys < 1 || keys > 3 || keys > count:
				want = api.ErrArg
			}
			if err := schema.Check(ints(keys, count)); err != want {
				t.Errorf("Check of %d columns, %d Keys = %d, not %d", count, keys, err, want)
			}
		}
	}
	for _, keys := range farOff {
		if err := schema.Check(ints(keys, 8)); err != api.ErrArg {
			t.Errorf("Check of %d Keys = %d, not ErrArg", keys, err)
		}
	}
}

// Each column's fault is told of the table, too, at each place.
func TestCheckOfEachColumnAtEachPlace(t *testing.T) {
	for _, want := range cols {
		for at := 1; at < api.MaxCols; at++ {
			u := changed(ints(1, 8), at, want.c)
			if err := schema.Check(u); err != want.err {
				t.Errorf("Check(%+v) = %d, not %d", u, err, want.err)
			}
		}
	}
}

// Each two places with one name.
func TestCheckOfEachTwoOfOneName(t *testing.T) {
	for a := range api.MaxCols {
		for b := range a {
			u := ints(1, 8)
			u.Cols[a].Name = u.Cols[b].Name
			if err := schema.Check(u); err != api.ErrTwice {
				t.Errorf("Check of one name at %d and %d = %d, not ErrTwice", b, a, err)
			}
		}
	}
}

// wantCol tells what CheckCol must say, in the chapter's order.
func wantCol(c api.Col) api.Errno {
	if err := names.Check(c.Name); err != api.OK {
		return err
	}
	if c.Kind == 0 || values.Name(c.Kind) == "" {
		return api.ErrKind
	}
	if err := values.Check(c.Default); err != api.OK {
		return err
	}
	if c.Default != (api.Value{}) && c.Default.Kind != c.Kind {
		return api.ErrType
	}
	return api.OK
}

// wantTable tells what Check must say, in the chapter's order.
func wantTable(t api.Table) api.Errno {
	switch {
	case names.Check(t.Name) != api.OK:
		return names.Check(t.Name)
	case len(t.Cols) == 0 || len(t.Cols) > 8:
		return api.ErrLimit
	case t.Keys <= 0 || t.Keys >= 4 || t.Keys > len(t.Cols):
		return api.ErrArg
	}
	for _, c := range t.Cols {
		if err := wantCol(c); err != api.OK {
			return err
		}
	}
	for i := range t.Cols {
		for j := range i {
			if t.Cols[i].Name == t.Cols[j].Name {
				return api.ErrTwice
			}
		}
	}
	for i := range t.Keys {
		if t.Cols[i].Null {
			return api.ErrType
		}
	}
	return api.OK
}

// anyValue tells a value, and one time of so many one that may not be.
func anyValue(r *rand.Rand, odds int) api.Value {
	if r.Intn(odds) == 0 {
		l := sample.Refused()
		return l[r.Intn(len(l))].Value
	}
	l := some(r.Intn(6))
	return l[r.Intn(len(l))]
}

// anyTable tells a table that has a fault, or several, now and then.
func anyTable(r *rand.Rand) api.Table {
	rare := func(usual, other int) int {
		if r.Intn(25) == 0 {
			return other
		}
		return usual
	}
	count := rare(1+r.Intn(8), 9*r.Intn(2))
	t := ints(rare(min(count, 1+r.Intn(3)), r.Intn(10)-1), count)
	t.Name = []string{"t", longest, tooLong, ""}[rare(r.Intn(2), 2+r.Intn(2))]
	for i := range t.Cols {
		c := &t.Cols[i]
		c.Kind = rare(1+r.Intn(5), r.Intn(9)-1)
		c.Null = i >= t.Keys && r.Intn(2) == 0 || r.Intn(30) == 0
		if r.Intn(2) == 0 {
			l := some(c.Kind)
			c.Default = l[r.Intn(len(l))]
		}
		if r.Intn(60) == 0 {
			c.Default = anyValue(r, 2)
		}
		if r.Intn(40) == 0 {
			c.Name = t.Cols[r.Intn(count)].Name
		}
		if r.Intn(60) == 0 {
			c.Name = []string{"", "1", "A", tooLong}[r.Intn(4)]
		}
	}
	return t
}

func TestCheckOfManyTables(t *testing.T) {
	r := rand.New(rand.NewSource(9))
	var told [api.ErrNone + 1]int
	for range 200000 {
		u := anyTable(r)
		want := wantTable(u)
		told[want]++
		if err := schema.Check(u); err != want {
			t.Fatalf("Check(%+v) = %d, not %d", u, err, want)
		}
		for _, c := range u.Cols {
			if err := schema.CheckCol(c); err != wantCol(c) {
				t.Fatalf("CheckCol(%+v) = %d, not %d", c, err, wantCol(c))
			}
		}
	}
	for _, err := range []api.Errno{api.OK, api.ErrName, api.ErrLimit, api.ErrArg, api.ErrKind, api.ErrForm, api.ErrRange, api.ErrText, api.ErrType, api.ErrTwice} {
		if told[err] < 100 {
			t.Errorf("%d came up %d times alone", err, told[err])
		}
	}
}

func TestFind(t *testing.T) {
	for _, u := range good() {
		for i, c := range u.Cols {
			if at := schema.Find(u, c.Name); at != i {
				t.Errorf("Find(%+v, %q) = %d, not %d", u, c.Name, at, i)
			}
		}
		for _, name := range []string{"", "nobody", "cc", "c8", "c00", "K", "k ", "\x00", tooLong, "every_kind"} {
			if at := schema.Find(u, name); at != -1 {
				t.Errorf("Find(%+v, %q) = %d, not -1", u, name, at)
			}
		}
	}
	if at := schema.Find(plain(), "t"); at != -1 {
		t.Errorf("Find of the table's own name = %d, not -1", at)
	}
}

// What is no table is looked through, too: by each name that stands in it, the first of several.
func TestFindInWhatIsNoTable(t *testing.T) {
	twice := table("", -1, col("a", 9), col("", 0), col("b", 2), col("a", 2), col("", 1))
	for _, want := range []struct {
		name string
		at   int
	}{{"a", 0}, {"", 1}, {"b", 2}, {"c", -1}} {
		if at := schema.Find(twice, want.name); at != want.at {
			t.Errorf("Find(%q) = %d, not %d", want.name, at, want.at)
		}
	}
	if at := schema.Find(api.Table{}, ""); at != -1 {
		t.Errorf("Find of no column = %d, not -1", at)
	}
	if at := schema.Find(ints(1, 1000), "c999"); at != 999 {
		t.Errorf("Find of the last of 1000 = %d", at)
	}
}
