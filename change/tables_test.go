package change_test

import (
	"slices"
	"strings"
	"testing"

	"transom/api"
	"transom/sample"
)

// byName tells its arguments' tables by rising names.
func byName(l ...[]api.Table) []api.Table {
	all := slices.Concat(l...)
	slices.SortFunc(all, func(a, b api.Table) int { return strings.Compare(a.Name, b.Name) })
	return all
}

func TestSplit(t *testing.T) {
	of := renamed(each(), "m") // a key of two, and the columns ratio, raw and said
	for _, want := range []struct {
		names    []string
		to, also []int
	}{
		{nil, nil, list(2, 3, 4)},
		{list[string](), nil, list(2, 3, 4)},
		{list("ratio"), list(2), list(3, 4)},
		{list("raw"), list(3), list(2, 4)},
		{list("said"), list(4), list(2, 3)},
		{list("ratio", "raw"), list(2, 3), list(4)},
		{list("raw", "ratio"), list(2, 3), list(4)},
		{list("said", "ratio"), list(2, 4), list(3)},
		{list("raw", "said"), list(3, 4), list(2)},
		{list("ratio", "raw", "said"), list(2, 3, 4), nil},
		{list("said", "raw", "ratio"), list(2, 3, 4), nil},
		{list("raw", "said", "ratio"), list(2, 3, 4), nil},
	} {
		for _, name := range [][2]string{
			{"n", "o"}, {"o", "n"}, // between
			{"b", "y"}, {"y", "b"},
			{"a0", "zz"}, {"zz", "a0"},
			{"m", "n"}, {"n", "m"}, {"m", "b"}, {"b", "m"}, // the source's own name
			{"truth", "raw"}, // names that columns have
		} {
			for _, l := range [][]api.Table{list(of), {of, named("z")[0]}, {named("a")[0], of}, {named("a")[0], of, named("z")[0]}} {
				to, also := picked(of, name[0], want.to...), picked(of, name[1], want.also...)
				left := slices.DeleteFunc(copiedAll(l), func(u api.Table) bool { return u.Name == "m" })
				wantTo(t, l, splitting("m", name[0], name[1], want.names...), list(to, also), byName(left, list(to, also)))
			}
		}
	}
}

// Tables of 1 to 8 columns, Keys of 1 to as many: none of the columns behind the key, each of them, and all.
func TestSplitOfEachSize(t *testing.T) {
	for count := 1; count <= api.MaxCols; count++ {
		for keys := 1; keys <= min(count, api.MaxKeys); keys++ {
			of := atM(keys, count)
			for bits := range 1 << (count - keys) {
				var names []string
				var to, also []int
				for at := keys; at < count; at++ {
					if bits>>(at-keys)&1 == 1 {
						names, to = append(names, of.Cols[at].Name), append(to, at)
					} else {
						also = append(also, at)
					}
				}
				slices.Reverse(names)
				a, b := picked(of, "a", to...), picked(of, "b", also...)
				wantTo(t, list(of), splitting("m", "a", "b", names...), list(a, b), list(a, b))
			}
		}
	}
}

func TestSplitOfWhatMayNotBe(t *testing.T) {
	of := renamed(each(), "m")
	for _, no := range []struct {
		c   api.Change
		err api.Errno
	}{
		{splitting("m", "", "b", "raw"), api.ErrName},
		{splitting("m", "1", "b", "raw"), api.ErrName},
		{splitting("m", sample.TooLong, "b", "raw"), api.ErrName},
		{splitting("m", "b", "", "raw"), api.ErrName},
		{splitting("m", "b", "B", "raw"), api.ErrName},
		{splitting("m", "b", sample.TooLong, "raw"), api.ErrName},
		{splitting("m", "", "", "raw"), api.ErrName},

		{splitting("m", "b", "b", "raw"), api.ErrTwice},
		{splitting("m", "m", "m", "raw"), api.ErrTwice},

		{splitting("m", "b", "c", "v"), api.ErrColumn},
		{splitting("m", "b", "c", ""), api.ErrColumn},
		{splitting("m", "b", "c", "RAW"), api.ErrColumn},
		{splitting("m", "b", "c", "raw", "v"), api.ErrColumn},
		{splitting("m", "b", "c", "v", "raw"), api.ErrColumn},
		{splitting("m", "b", "c", "truth"), api.ErrColumn},
		{splitting("m", "b", "c", "number"), api.ErrColumn},
		{splitting("m", "b", "c", "raw", "number"), api.ErrColumn},
		{splitting("m", "b", "c", "number", "raw"), api.ErrColumn},
		{splitting("m", "b", "c", "raw", "raw"), api.ErrColumn},
		{splitting("m", "b", "c", "raw", "said", "raw"), api.ErrColumn},
		{splitting("m", "b", "c", "ratio", "said", "raw", "said"), api.ErrColumn},
		{splitting("m", "b", "c", "truth", "number", "ratio", "raw", "said"), api.ErrColumn},

		{splitting("m", "a", "c", "raw"), api.ErrTwice},
		{splitting("m", "z", "c", "raw"), api.ErrTwice},
		{splitting("m", "c", "a", "raw"), api.ErrTwice},
		{splitting("m", "c", "z", "raw"), api.ErrTwice},
		{splitting("m", "m", "z", "raw"), api.ErrTwice},
		{splitting("m", "a", "m", "raw"), api.ErrTwice},
		{splitting("m", "a", "z"), api.ErrTwice},

		// Two faults at once.
		{splitting("m", "B", "B"), api.ErrName},
		{splitting("m", "B", "z", "v"), api.ErrName},
		{splitting("m", "a", "B", "v"), api.ErrName},
		{splitting("m", "b", "b", "v"), api.ErrTwice},
		{splitting("m", "a", "a", "v"), api.ErrTwice},
		{splitting("m", "a", "b", "v"), api.ErrColumn},
		{splitting("m", "b", "z", "raw", "raw"), api.ErrColumn},
		{splitting("m", "a", "z", "truth"), api.ErrColumn},
	} {
		wantNone(t, slices.Concat(named("a"), list(of), named("z")), no.c, no.err)
	}
	// A key of all columns leaves none to name.
	for keys := 1; keys <= api.MaxKeys; keys++ {
		full := atM(keys, keys)
		for _, c := range full.Cols {
			wantNone(t, list(full), splitting("m", "a", "b", c.Name), api.ErrColumn)
		}
	}
	// Names without end.
	wantNone(t, list(of), splitting("m", "a", "b", slices.Repeat(list("raw"), 100000)...), api.ErrColumn)
}

func TestSplitOfMostTables(t *testing.T) {
	for _, count := range list(14, 15) {
		for at := range count {
			l := many(count)
			name := l[at].Name
			for _, to := range [][2]string{{"a", "b"}, {"z", "a"}, {name, "z"}, {"a", name}} {
				a, b := picked(l[at], to[0], 1), picked(l[at], to[1])
				left := append(copiedAll(l[:at]), copiedAll(l[at+1:])...)
				wantTo(t, l, splitting(name, to[0], to[1], "v"), list(a, b), byName(left, list(a, b)))
			}
		}
	}
	for at := range 16 {
		l := many(16)
		name := l[at].Name
		wantFull(t, l, splitting(name, "z", "a", "v"), list(picked(l[at], "z", 1), picked(l[at], "a")))
		wantFull(t, l, splitting(name, name, "a"), list(picked(l[at], name), picked(l[at], "a", 1)))
		wantNone(t, l, splitting(name, "a", l[(at+1)%16].Name), api.ErrTwice)
		wantNone(t, l, splitting(name, "a", "b", "k"), api.ErrColumn)
	}
}

func TestMerge(t *testing.T) {
	of := each()
	l := []api.Table{named("a")[0], renamed(of, "d"), named("g")[0], renamed(of, "m"), named("z")[0]}
	left := named("a", "g", "z")
	for _, pair := range [][2]string{{"d", "m"}, {"m", "d"}} {
		for _, name := range list("a0", "d", "e", "h", "m", "n", "zz", "truth", sample.Longest) {
			to := renamed(of, name)
			wantTo(t, l, merging(pair[0], pair[1], name), list(to), byName(left, list(to)))
		}
		for _, name := range list("a", "g", "z") {
			wantNone(t, l, merging(pair[0], pair[1], name), api.ErrTwice)
		}
	}
	// Two of two, the first two, the last two, and two with others between.
	for _, want := range []struct {
		l        []api.Table
		from, by string
		left     []api.Table
	}{
		{named("a", "b"), "a", "b", nil},
		{named("a", "b", "c"), "b", "a", named("c")},
		{named("a", "b", "c"), "b", "c", named("a")},
		{named("a", "b", "c", "d"), "a", "d", named("b", "c")},
	} {
		for _, name := range list(want.from, want.by, "b0", "x") {
			to := renamed(plain(), name)
			wantTo(t, want.l, merging(want.from, want.by, name), list(to), byName(want.left, list(to)))
		}
	}
	for count := 1; count <= api.MaxCols; count++ {
		for keys := 1; keys <= min(count, api.MaxKeys); keys++ {
			of := ints(keys, count)
			to := list(renamed(of, "c"))
			wantTo(t, list(renamed(of, "a"), renamed(of, "b")), merging("a", "b", "c"), to, to)
		}
	}
	to := list(renamed(plain(), "a"))
	wantTo(t, many(16), merging("t103", "t114", "a"), to, append(to, slices.Concat(many(16)[:3], many(16)[4:14], many(16)[15:])...))
}

// Tables that differ in one thing alone.
func TestMergeOfUnlikeTables(t *testing.T) {
	of := renamed(atM(2, 5), "m")
	last := of.Cols[4]
	for _, other := range []api.Table{
		atM(1, 5), atM(3, 5), // as many columns, but another key
		atM(2, 4), atM(2, 6), atM(2, 2), atM(2, 8),
		changed(of, 0, col("x", api.KindInt)),
		changed(of, 4, col("x", api.KindInt)),
		changed(of, 0, col("c0", api.KindText)),
		changed(of, 2, col("c2", api.KindText)),
		changed(of, 4, col("c4", api.KindText)),
		changed(of, 2, open("c2", api.KindInt)),
		changed(of, 4, open("c4", api.KindInt)),
		changed(of, 0, with(of.Cols[0], sample.Int(0))),
		changed(of, 4, with(last, sample.Int(0))),
		changed(changed(of, 3, last), 4, of.Cols[3]), // in another order
	} {
		other = renamed(other, "o")
		for _, to := range list("m", "o", "a", "z", "n") {
			wantNone(t, list(of, other), merging("m", "o", to), api.ErrType)
			wantNone(t, list(of, other), merging("o", "m", to), api.ErrType)
		}
	}
	// Defaults are held against each other in all their fields.
	zero := changed(of, 4, with(col("c4", api.KindReal), sample.Real(0)))
	minus := changed(of, 4, with(col("c4", api.KindReal), sample.Real(sample.Sign)))
	wantNone(t, list(zero, renamed(minus, "o")), merging("m", "o", "m"), api.ErrType)
	wantNone(t, list(zero, renamed(minus, "o")), merging("o", "m", "m"), api.ErrType)
	nan := changed(of, 4, with(col("c4", api.KindReal), sample.Real(sample.TheNaN)))
	wantTo(t, list(nan, renamed(nan, "o")), merging("o", "m", "m"), list(nan), list(nan))
}

func TestMergeOfWhatMayNotBe(t *testing.T) {
	l := []api.Table{named("a")[0], named("b")[0], ints(1, 2)}
	for _, no := range []struct {
		c   api.Change
		err api.Errno
	}{
		{merging("a", "a", "c"), api.ErrTwice},
		{merging("t", "t", "t"), api.ErrTwice},
		{merging("a", "b", ""), api.ErrName},
		{merging("a", "b", "A"), api.ErrName},
		{merging("a", "b", sample.TooLong), api.ErrName},
		{merging("a", "t", "c"), api.ErrType},
		{merging("t", "b", "t"), api.ErrType},
		{merging("a", "b", "t"), api.ErrTwice},

		{merging("", "", ""), api.ErrTable},
		{merging("x", "x", "c"), api.ErrTable},
		{merging("x", "a", "c"), api.ErrTable},
		{merging("a", "x", "c"), api.ErrTable},
		{merging("x", "y", "c"), api.ErrTable},
		{merging("a", "", "c"), api.ErrTable},

		// Two faults at once.
		{merging("a", "x", ""), api.ErrTable},
		{merging("x", "x", ""), api.ErrTable},
		{merging("x", "a", "t"), api.ErrTable},
		{merging("a", "a", ""), api.ErrTwice},
		{merging("a", "a", "1"), api.ErrTwice},
		{merging("a", "t", ""), api.ErrName},
		{merging("t", "a", "B"), api.ErrName},
		{merging("a", "t", "b"), api.ErrType},
	} {
		wantNone(t, l, no.c, no.err)
	}
}
