package change_test

import (
	"slices"
	"strings"
	"testing"

	"transom/api"
	"transom/change"
	"transom/convert"
	"transom/sample"
)

// picked tells a table of t's key and of those of its columns, by another name.
func picked(t api.Table, name string, at ...int) api.Table {
	u := table(name, t.Keys, t.Cols[:t.Keys]...)
	for _, i := range at {
		u.Cols = append(u.Cols, t.Cols[i])
	}
	return u
}

// around tells lists in which t, whose name is between f and p, stands alone, first, last and between.
func around(t api.Table) [][]api.Table {
	return [][]api.Table{
		{t},
		append(list(t), named("p", "z")...),
		append(named("a", "f"), t),
		slices.Concat(named("a", "f"), list(t), named("p", "z")),
	}
}

// replaced tells l where one table stands instead of the one of its name.
func replaced(l []api.Table, t api.Table) []api.Table {
	return tabled(l, change.Find(l, t.Name), t)
}

// wantOne holds a change that leaves a table its name against what becomes of it, wherever it stands.
func wantOne(t *testing.T, from api.Table, c api.Change, to api.Table) {
	t.Helper()
	for _, l := range around(from) {
		wantTo(t, l, c, list(to), replaced(l, to))
	}
}

// wantNoOne holds a change against an error, wherever its table stands.
func wantNoOne(t *testing.T, from api.Table, c api.Change, want api.Errno) {
	t.Helper()
	for _, l := range around(from) {
		wantNone(t, l, c, want)
	}
}

// The chapter's example.
func TestExample(t *testing.T) {
	of := plain()
	of.Cols = append(of.Cols, open("w", api.KindInt), col("x", api.KindReal))
	a := table("a", 1, of.Cols[0], of.Cols[1])
	b := table("b", 1, of.Cols[0], of.Cols[2], of.Cols[3])
	wantTo(t, list(of), splitting("t", "a", "b", "v"), list(a, b), list(a, b))
}

func TestCreate(t *testing.T) {
	def := renamed(each(), "m")
	wantTo(t, nil, creating(def), list(def), list(def))
	wantTo(t, named("n"), creating(def), list(def), append(list(def), named("n")...))
	wantTo(t, named("a"), creating(def), list(def), append(named("a"), def))
	wantTo(t, named("a", "z"), creating(def), list(def), slices.Concat(named("a"), list(def), named("z")))
	wantTo(t, named("l", "m0"), creating(def), list(def), slices.Concat(named("l"), list(def), named("m0")))
	for count := 1; count <= api.MaxCols; count++ {
		for keys := 1; keys <= min(count, api.MaxKeys); keys++ {
			u := ints(keys, count)
			wantTo(t, named("a", "u"), creating(u), list(u), slices.Concat(named("a"), list(u), named("u")))
		}
	}
	// Not Null, and its Default null: that may be in a table that has no rows yet.
	bare := table("m", 1, col("k", api.KindInt), col("v", api.KindText))
	wantTo(t, nil, creating(bare), list(bare), list(bare))
}

func TestCreateOfWhatMayNotBe(t *testing.T) {
	for _, no := range refused() {
		wantNone(t, nil, creating(no.Table), no.Err)
		wantNone(t, named("a", "z"), creating(no.Table), no.Err)
		wantNone(t, named("a", "m", "z"), creating(no.Table), no.Err)
		wantNone(t, many(16), creating(no.Table), no.Err)
	}
	for _, name := range list("a", "m", "z") {
		wantNone(t, named("a", "m", "z"), creating(renamed(each(), name)), api.ErrTwice)
	}
	wantNone(t, list(plain()), creating(plain()), api.ErrTwice)
	wantNone(t, many(16), creating(many(16)[9]), api.ErrTwice)
}

func TestCreateOfMostTables(t *testing.T) {
	for _, name := range list("a", "t1000", "t107x", "z") {
		def := renamed(each(), name)
		l := many(15)
		all := append(many(15), def)
		slices.SortFunc(all, func(a, b api.Table) int { return strings.Compare(a.Name, b.Name) })
		wantTo(t, l, creating(def), list(def), all)
		wantFull(t, many(16), creating(def), list(def))
	}
}

// wantFull holds Targets against tables that Apply has no room for.
func wantFull(t *testing.T, l []api.Table, c api.Change, to []api.Table) {
	t.Helper()
	if got, err := ask(t, change.Targets, l, c); !alikeAll(got, to) || err != api.OK {
		t.Errorf("Targets(%+v, %+v) = %+v, %d, not %+v", l, c, got, err, to)
	}
	if _, err := ask(t, change.Apply, l, c); err != api.ErrLimit {
		t.Errorf("Apply(%+v, %+v) = %d, not ErrLimit", l, c, err)
	}
}

// atM tells a table of that many columns, by the name m.
func atM(keys, count int) api.Table {
	return renamed(ints(keys, count), "m")
}

// longer tells t with c behind its columns.
func longer(t api.Table, c api.Col) api.Table {
	t = copied(t)
	t.Cols = append(t.Cols, c)
	return t
}

func TestAdd(t *testing.T) {
	for _, c := range []api.Col{
		open("v", api.KindText),
		with(open("v", api.KindInt), sample.Int(-1)),
		with(col("v", api.KindBool), sample.Bool(0)),
		with(col("v", api.KindText), sample.Text("")),
		with(col("m", api.KindReal), sample.Real(0)), // the table's name
		with(col("a", api.KindInt), sample.Int(0)),   // another table's
		open("c", api.KindInt),
		open(sample.Longest, api.KindBytes),
	} {
		for _, from := range []api.Table{atM(1, 1), atM(1, 2), atM(1, 7), atM(3, 3), atM(3, 7), renamed(each(), "m")} {
			wantOne(t, from, adding("m", c), longer(from, c))
		}
	}
	for kind := api.KindBool; kind <= api.KindText; kind++ {
		for _, v := range some(kind) {
			wantOne(t, atM(2, 2), adding("m", with(col("v", kind), v)), longer(atM(2, 2), with(col("v", kind), v)))
		}
	}
}

func TestAddOfWhatMayNotBe(t *testing.T) {
	for _, no := range []struct {
		from api.Table
		c    api.Col
		err  api.Errno
	}{
		{atM(1, 2), api.Col{}, api.ErrName},
		{atM(1, 2), open("V", api.KindInt), api.ErrName},
		{atM(1, 2), open(sample.TooLong, api.KindInt), api.ErrName},
		{atM(1, 2), open("v", api.KindNull), api.ErrKind},
		{atM(1, 2), open("v", 6), api.ErrKind},
		{atM(1, 2), with(col("v", api.KindInt), sample.Bool(1)), api.ErrType},
		{atM(1, 2), with(open("v", api.KindBytes), sample.Text("x")), api.ErrType},

		{atM(1, 1), open("c0", api.KindInt), api.ErrTwice},
		{atM(1, 2), open("c0", api.KindText), api.ErrTwice},
		{atM(1, 2), open("c1", api.KindText), api.ErrTwice},
		{atM(3, 7), open("c6", api.KindText), api.ErrTwice},

		{atM(1, 8), open("v", api.KindInt), api.ErrLimit},
		{atM(3, 8), with(col("v", api.KindInt), sample.Int(1)), api.ErrLimit},

		{atM(1, 1), col("v", api.KindInt), api.ErrType},
		{atM(1, 7), col("v", api.KindText), api.ErrType},

		// Two faults at once.
		{atM(1, 8), col("V", api.KindInt), api.ErrName},
		{atM(1, 8), col("v", 6), api.ErrKind},
		{atM(1, 8), with(col("v", api.KindInt), sample.Bool(1)), api.ErrType},
		{atM(1, 8), with(col("v", api.KindInt), sample.Bool(2)), api.ErrRange},
		{atM(1, 2), open("c1", 6), api.ErrKind},
		{atM(1, 2), with(open("c1", api.KindText), sample.Text("\xff")), api.ErrText},
		{atM(1, 2), with(open("c1", api.KindText), sample.Bytes("")), api.ErrType},
		{atM(1, 8), open("c7", api.KindInt), api.ErrTwice},
		{atM(1, 8), open("c0", api.KindInt), api.ErrTwice},
		{atM(1, 8), col("c7", api.KindInt), api.ErrTwice},
		{atM(1, 2), col("c1", api.KindInt), api.ErrTwice},
		{atM(1, 8), col("v", api.KindInt), api.ErrLimit},
	} {
		wantNoOne(t, no.from, adding("m", no.c), no.err)
	}
	for _, wrong := range sample.Refused() {
		wantNoOne(t, atM(1, 8), adding("m", with(col("c0", api.KindInt), wrong.Value)), wrong.Err)
	}
}

func TestDrop(t *testing.T) {
	for count := 1; count <= api.MaxCols; count++ {
		for keys := 1; keys <= min(count, api.MaxKeys); keys++ {
			from := atM(keys, count)
			for at, c := range from.Cols {
				if at < keys {
					wantNoOne(t, from, dropping("m", c.Name), api.ErrColumn)
					continue
				}
				to := copied(from)
				to.Cols = append(to.Cols[:at], to.Cols[at+1:]...)
				wantOne(t, from, dropping("m", c.Name), to)
			}
			for _, name := range list("", "c", "c8", "C1", "k", "m", "c00") {
				wantNoOne(t, from, dropping("m", name), api.ErrColumn)
			}
		}
	}
	of := renamed(each(), "m")
	wantOne(t, of, dropping("m", "ratio"), picked(of, "m", 3, 4))
	wantOne(t, of, dropping("m", "raw"), picked(of, "m", 2, 4))
	wantOne(t, of, dropping("m", "said"), picked(of, "m", 2, 3))
}

// Columns, a kind, and what they become by it.
func TestRetype(t *testing.T) {
	eight := "\x00\x00\x00\x00\x00\x00\x00\x07"
	for _, want := range []struct {
		c    api.Col
		kind int
		def  api.Value
	}{
		// A Default that is null stays null.
		{open("v", api.KindText), api.KindInt, sample.Null()},
		{col("v", api.KindText), api.KindInt, sample.Null()},
		{col("v", api.KindReal), api.KindBool, sample.Null()},
		// One that becomes a value of the other kind.
		{with(col("v", api.KindText), sample.Text("12")), api.KindInt, sample.Int(12)},
		{with(open("v", api.KindText), sample.Text("-9223372036854775808")), api.KindInt, sample.Int(api.MinInt)},
		{with(open("v", api.KindText), sample.Text("true")), api.KindBool, sample.Bool(1)},
		{with(open("v", api.KindText), sample.Text("x")), api.KindBytes, sample.Bytes("x")},
		{with(col("v", api.KindInt), sample.Int(1)), api.KindBool, sample.Bool(1)},
		{with(col("v", api.KindInt), sample.Int(1)), api.KindReal, sample.Real(sample.One)},
		{with(col("v", api.KindInt), sample.Int(7)), api.KindBytes, sample.Bytes(eight)},
		{with(col("v", api.KindInt), sample.Int(-7)), api.KindText, sample.Text("-7")},
		{with(col("v", api.KindBool), sample.Bool(0)), api.KindText, sample.Text("false")},
		{with(col("v", api.KindReal), sample.Real(sample.One)), api.KindInt, sample.Int(1)},
		{with(col("v", api.KindBytes), sample.Bytes(eight)), api.KindInt, sample.Int(7)},
		{with(col("v", api.KindBytes), sample.Bytes("\xff\xff\xff\xff\xff\xff\xff\xff")), api.KindReal, sample.Real(sample.TheNaN)},
		{with(col("v", api.KindBytes), sample.Bytes("\xc3\xa4")), api.KindText, sample.Text("\xc3\xa4")},
		// One that is refused there.
		{with(col("v", api.KindText), sample.Text("012")), api.KindInt, sample.Null()},
		{with(open("v", api.KindText), sample.Text("x")), api.KindInt, sample.Null()},
		{with(col("v", api.KindText), sample.Text("")), api.KindBool, sample.Null()},
		{with(col("v", api.KindInt), sample.Int(2)), api.KindBool, sample.Null()},
		{with(col("v", api.KindInt), sample.Int(api.MaxInt)), api.KindReal, sample.Null()},
		{with(open("v", api.KindReal), sample.Real(sample.Inf)), api.KindInt, sample.Null()},
		{with(open("v", api.KindBytes), sample.Bytes("seven b")), api.KindInt, sample.Null()},
		{with(open("v", api.KindBytes), sample.Bytes("\xff")), api.KindText, sample.Null()},
	} {
		to := want.c
		to.Kind, to.Default = want.kind, want.def
		from := changed(atM(1, 3), 1, want.c)
		wantOne(t, from, retyping("m", "v", want.kind), changed(from, 1, to))
	}
}

// A column of each kind, to each kind, at each place behind the key, with each Default.
func TestRetypeOfEachKind(t *testing.T) {
	for from := api.KindBool; from <= api.KindText; from++ {
		for kind := -1; kind <= 7; kind++ {
			for _, def := range append(some(from), sample.Null()) {
				for _, null := range []bool{false, true} {
					c := api.Col{Name: "v", Kind: from, Null: null, Default: def}
					to := api.Col{Name: "v", Kind: kind, Null: null}
					if v, err := convert.To(def, kind); err == api.OK {
						to.Default = v
					}
					for _, at := range list(2, 3, 7) {
						of := changed(atM(2, 8), at, c)
						if convert.Can(from, kind) {
							wantOne(t, of, retyping("m", "v", kind), changed(of, at, to))
						} else {
							wantNoOne(t, of, retyping("m", "v", kind), api.ErrKind)
						}
					}
				}
			}
		}
	}
	for _, kind := range farOff {
		wantNoOne(t, atM(1, 2), retyping("m", "c1", kind), api.ErrKind)
	}
}

func TestRetypeOfWhatMayNotBe(t *testing.T) {
	for count := 1; count <= api.MaxCols; count++ {
		for keys := 1; keys <= min(count, api.MaxKeys); keys++ {
			from := atM(keys, count)
			for at, c := range from.Cols {
				if at < keys {
					wantNoOne(t, from, retyping("m", c.Name, api.KindText), api.ErrColumn)
					wantNoOne(t, from, retyping("m", c.Name, api.KindInt), api.ErrColumn)
				} else {
					to := c
					to.Kind = api.KindText
					wantOne(t, from, retyping("m", c.Name, api.KindText), changed(from, at, to))
					wantOne(t, from, retyping("m", c.Name, api.KindInt), from)
				}
			}
		}
	}
	for _, name := range list("", "c", "c8", "C1", "k", "m") {
		wantNoOne(t, atM(1, 8), retyping("m", name, api.KindText), api.ErrColumn)
	}
	// Two faults at once.
	for _, kind := range list(0, -1, 6, api.MaxInt) {
		wantNoOne(t, atM(1, 8), retyping("m", "c8", kind), api.ErrColumn)
		wantNoOne(t, atM(1, 8), retyping("m", "c0", kind), api.ErrColumn)
		wantNoOne(t, atM(1, 8), retyping("m", "c1", kind), api.ErrKind)
	}
}
