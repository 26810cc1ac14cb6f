package change_test

import (
	"slices"
	"strconv"
	"testing"

	"transom/api"
	"transom/change"
	"transom/sample"
)

// The words of package sample, in short.
var (
	col     = sample.Col
	open    = sample.Open
	with    = sample.With
	table   = sample.Table
	plain   = sample.Plain
	ints    = sample.Ints
	each    = sample.Each
	renamed = sample.Renamed
	changed = sample.Changed
	copied  = sample.Copied
	alike   = sample.Alike
	some    = sample.Some
	refused = sample.RefusedTables

	creating  = sample.Creating
	adding    = sample.Adding
	dropping  = sample.Dropping
	retyping  = sample.Retyping
	splitting = sample.Splitting
	merging   = sample.Merging
)

// Numbers that are no Kind of a change.
var farOff = []int{api.MinInt, -256, -6, -1, 0, 7, 8, 255, 256, 257, 258, 262, 1 << 32, 1<<32 + 1, 1<<32 + 6, api.MaxInt}

// list tells its arguments as a list.
func list[T any](l ...T) []T {
	return l
}

// named tells tables like the chapters' example, of those names.
func named(l ...string) []api.Table {
	out := make([]api.Table, len(l))
	for i, name := range l {
		out[i] = renamed(plain(), name)
	}
	return out
}

// many tells so many tables, t100, t101 and so on.
func many(count int) []api.Table {
	l := make([]string, count)
	for i := range l {
		l[i] = "t" + strconv.Itoa(100+i)
	}
	return named(l...)
}

// copiedAll tells l with tables and columns of its own.
func copiedAll(l []api.Table) []api.Table {
	out := make([]api.Table, len(l))
	for i, t := range l {
		out[i] = copied(t)
	}
	return out
}

// alikeAll tells whether a and b are the same in all.
func alikeAll(a, b []api.Table) bool {
	return slices.EqualFunc(a, b, alike)
}

// tabled tells l with t in place of the table at that place.
func tabled(l []api.Table, at int, t api.Table) []api.Table {
	l = copiedAll(l)
	l[at] = t
	return l
}

func TestCheckAll(t *testing.T) {
	for _, want := range []struct {
		l   []api.Table
		err api.Errno
	}{
		{nil, api.OK},
		{list[api.Table](), api.OK},
		{named("t"), api.OK},
		{list(each()), api.OK},
		{list(ints(1, 1)), api.OK},
		{list(ints(1, 7)), api.OK},
		{list(ints(3, 8)), api.OK},
		{list(ints(3, 3)), api.OK},
		{named("a", "b"), api.OK},
		{named("a", "a0", "a_", "aa", "ab", "b", "z", "z0"), api.OK},
		{named("a", sample.Longest, "b"), api.OK},
		{many(15), api.OK},
		{many(16), api.OK},

		{many(17), api.ErrLimit},
		{many(18), api.ErrLimit},
		{many(300), api.ErrLimit},
		{make([]api.Table, 17), api.ErrLimit},
		{make([]api.Table, 16), api.ErrName},
		{append(many(16), many(1)...), api.ErrLimit}, // and names that do not rise
		{tabled(many(17), 0, api.Table{}), api.ErrLimit},

		{named("a", "a"), api.ErrTwice},
		{named("b", "a"), api.ErrTwice},
		{named("a", "b", "a"), api.ErrTwice},
		{named("a", "b", "b"), api.ErrTwice},
		{named("a", "c", "b"), api.ErrTwice},
		{named("b", "a", "c"), api.ErrTwice},
		{named("aa", "a"), api.ErrTwice},
		{named("a_", "a0"), api.ErrTwice},
		{named("a", "b", "c", "d", "d", "e"), api.ErrTwice},
		{list(plain(), ints(1, 1)), api.ErrTwice}, // two different tables, both t
		{append(many(15), many(15)[14]), api.ErrTwice},
		{append(many(15), renamed(plain(), "t0")), api.ErrTwice},

		// Names that do not rise, and a table that is none behind them.
		{append(named("b", "a"), table("c", 1)), api.ErrLimit},
		{append(named("a", "a"), ints(0, 1)), api.ErrArg},
		{named("b", "a", "1"), api.ErrName},
	} {
		kept := copiedAll(want.l)
		if err := change.CheckAll(want.l); err != want.err {
			t.Errorf("CheckAll(%+v) = %d, not %d", want.l, err, want.err)
		}
		if !alikeAll(want.l, kept) {
			t.Errorf("CheckAll changed %+v to %+v", kept, want.l)
		}
	}
}

// A table that is none, at each place; and behind it others, whose error is not told.
func TestCheckAllOfWhatIsNoTable(t *testing.T) {
	for _, no := range refused() {
		for at := range 5 {
			l := tabled(named("a", "f", "m", "p", "z"), at, no.Table)
			if err := change.CheckAll(l); err != no.Err {
				t.Errorf("CheckAll(%+v) = %d, not %d", l, err, no.Err)
			}
			for _, other := range refused() {
				if err := change.CheckAll(append(l, other.Table)); err != no.Err {
					t.Errorf("CheckAll(%+v) = %d, not %d", append(l, other.Table), err, no.Err)
				}
			}
		}
	}
}

func TestFind(t *testing.T) {
	l := named("a", "a0", "a_", "aa", "m", "z", sample.Longest)
	l = append(l, api.Table{}, renamed(plain(), "m"), renamed(plain(), "\xff"))
	for _, want := range []struct {
		l    []api.Table
		name string
		at   int
	}{
		{nil, "a", -1},
		{nil, "", -1},
		{list[api.Table](), "a", -1},
		{named("t"), "t", 0},
		{named("t"), "u", -1},
		{named("t"), "s", -1},
		{named("t"), "", -1},
		{named("t"), "T", -1},
		{named("t"), "k", -1}, // a column's name
		{named("a", "b", "c"), "a", 0},
		{named("a", "b", "c"), "b", 1},
		{named("a", "b", "c"), "c", 2},
		{named("a", "b", "c"), "bb", -1},
		{many(16), "t100", 0},
		{many(16), "t115", 15},
		{many(16), "t116", -1},

		// Nothing is asked of the tables: of two the first is told, and what is none is found, too.
		{l, "a_", 2},
		{l, "m", 4},
		{l, sample.Longest, 6},
		{l, "", 7},
		{l, "\xff", 9},
		{l, sample.TooLong, -1},
		{named("c", "b", "a"), "a", 2},
		{named("c", "b", "a"), "c", 0},
		{many(40), "t139", 39},
	} {
		if at := change.Find(want.l, want.name); at != want.at {
			t.Errorf("Find(%+v, %q) = %d, not %d", want.l, want.name, at, want.at)
		}
	}
}

// whole tells a change whose fields are all there, of a Kind.
func whole(kind int) api.Change {
	return api.Change{
		Kind: kind, Table: "a", Other: "b", To: "c", Also: "d", Name: "v", Type: api.KindBytes, Names: list("v"),
		Col: open("w", api.KindInt), Def: renamed(plain(), "e"),
	}
}

func TestSources(t *testing.T) {
	for _, want := range []struct {
		c api.Change
		l []string
	}{
		{whole(api.ChangeCreate), nil},
		{whole(api.ChangeAdd), list("a")},
		{whole(api.ChangeDrop), list("a")},
		{whole(api.ChangeRetype), list("a")},
		{whole(api.ChangeSplit), list("a")},
		{whole(api.ChangeMerge), list("a", "b")},
		{api.Change{}, nil},

		// Nothing is asked of the names.
		{api.Change{Kind: api.ChangeCreate}, nil},
		{api.Change{Kind: api.ChangeAdd}, list("")},
		{api.Change{Kind: api.ChangeDrop, Table: "\xff"}, list("\xff")},
		{api.Change{Kind: api.ChangeRetype, Table: sample.TooLong}, list(sample.TooLong)},
		{api.Change{Kind: api.ChangeSplit, Table: "1"}, list("1")},
		{api.Change{Kind: api.ChangeMerge}, list("", "")},
		{api.Change{Kind: api.ChangeMerge, Table: "t", Other: "t"}, list("t", "t")},
		{api.Change{Kind: api.ChangeMerge, Table: "z", Other: "a"}, list("z", "a")},
	} {
		got := change.Sources(want.c)
		if !slices.Equal(got, want.l) {
			t.Errorf("Sources(%+v) = %q, not %q", want.c, got, want.l)
		}
		for i := range got {
			got[i] = "scribbled"
		}
		if again := change.Sources(want.c); !slices.Equal(again, want.l) {
			t.Errorf("Sources(%+v) again = %q, not %q", want.c, again, want.l)
		}
	}
}

func TestSourcesOfOtherKinds(t *testing.T) {
	kinds := slices.Clone(farOff)
	for kind := 7; kind <= 600; kind++ {
		kinds = append(kinds, kind, -kind)
	}
	for _, kind := range kinds {
		if l := change.Sources(whole(kind)); len(l) != 0 {
			t.Errorf("Sources of Kind %d = %q", kind, l)
		}
	}
}
