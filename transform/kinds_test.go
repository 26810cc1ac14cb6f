package transform_test

import (
	"slices"
	"testing"

	"transom/api"
	"transom/convert"
	"transom/sample"
)

// sizes hands on each number of Keys and of columns that a table may have.
func sizes(yield func(keys, count int) bool) {
	for count := 1; count <= api.MaxCols; count++ {
		for keys := 1; keys <= min(count, api.MaxKeys); keys++ {
			if !yield(keys, count) {
				return
			}
		}
	}
}

func TestAdd(t *testing.T) {
	for keys, count := range sizes {
		of, from := ints(keys, count), row(count)
		for kind := api.KindBool; kind <= api.KindText; kind++ {
			wantRow(t, of, adding("t", open("v", kind)), from, append(row(count), null()))
			for _, v := range sample.Some(kind) {
				wantRow(t, of, adding("t", with(open("v", kind), v)), from, append(row(count), v))
				wantRow(t, of, adding("t", with(col("v", kind), v)), from, append(row(count), v))
			}
		}
	}
	wantRow(t, plain(), adding("t", open("w", api.KindInt)), list(num(1), null()), list(num(1), null(), null()))
	wantRow(t, plain(), adding("t", with(open("w", api.KindInt), num(7))), list(num(1), text("x")), list(num(1), text("x"), num(7)))
}

// The chapter asks nothing of the column: whether it may be is what chapter 10's Targets tells.
func TestAddOfWhatTargetsRefuses(t *testing.T) {
	wantRow(t, ints(1, 2), adding("t", api.Col{}), row(2), append(row(2), null()))
	wantRow(t, ints(1, 2), adding("t", col("v", api.KindInt)), row(2), append(row(2), null()))
	wantRow(t, ints(1, 2), adding("t", with(open("c1", api.KindInt), num(5))), row(2), append(row(2), num(5)))
	wantRow(t, ints(1, 2), adding("t", with(open("c0", 9), num(5))), row(2), append(row(2), num(5)))
	wantRow(t, ints(1, 8), adding("t", with(open("v", api.KindInt), num(5))), row(8), append(row(8), num(5)))
	for _, wrong := range sample.Refused() {
		wantRow(t, ints(3, 7), adding("t", with(col("v", api.KindInt), wrong.Value)), row(7), append(row(7), wrong.Value))
	}
}

func TestDrop(t *testing.T) {
	for keys, count := range sizes {
		of := ints(keys, count)
		for i, c := range of.Cols {
			if i < keys {
				wantNoRow(t, of, dropping("t", c.Name), row(count), api.ErrColumn)
			} else {
				wantRow(t, of, dropping("t", c.Name), row(count), slices.Delete(row(count), i, i+1))
			}
		}
		for _, name := range list("", "c", "c8", "C1", "v", "t", "c1 ", sample.TooLong, "\xff") {
			wantNoRow(t, of, dropping("t", name), row(count), api.ErrColumn)
		}
	}
	from := list(num(10), num(11), num(12), num(13))
	wantRow(t, ints(1, 4), dropping("t", "c1"), from, list(num(10), num(12), num(13)))
	wantRow(t, ints(1, 4), dropping("t", "c2"), from, list(num(10), num(11), num(13)))
	wantRow(t, ints(1, 4), dropping("t", "c3"), from, list(num(10), num(11), num(12)))
	wantRow(t, ints(3, 4), dropping("t", "c3"), from, list(num(10), num(11), num(12)))
	wantNoRow(t, ints(3, 4), dropping("t", "c2"), from, api.ErrColumn)
	wantRow(t, plain(), dropping("t", "v"), list(num(1), null()), list(num(1)))
}

// Values, and what each becomes as one of another kind.
var becomes = []struct {
	v    api.Value
	kind int
	to   api.Value
}{
	{sample.Bool(1), api.KindInt, sample.Int(1)},
	{sample.Bool(1), api.KindReal, sample.Real(sample.One)},
	{sample.Bool(0), api.KindText, sample.Text("false")},
	{sample.Int(1), api.KindBool, sample.Bool(1)},
	{sample.Int(1), api.KindReal, sample.Real(sample.One)},
	{sample.Int(258), api.KindBytes, sample.Bytes("\x00\x00\x00\x00\x00\x00\x01\x02")},
	{sample.Int(-12), api.KindText, sample.Text("-12")},
	{sample.Real(sample.One), api.KindBool, sample.Bool(1)},
	{sample.Real(sample.Sign), api.KindInt, sample.Int(0)},
	{sample.Real(sample.One), api.KindBytes, sample.Bytes("\x3f\xf0\x00\x00\x00\x00\x00\x00")},
	{sample.Bytes("\x00\x00\x00\x00\x00\x00\x01\x02"), api.KindInt, sample.Int(258)},
	{sample.Bytes("\x3f\xf0\x00\x00\x00\x00\x00\x00"), api.KindReal, sample.Real(sample.One)},
	{sample.Bytes("\xff\xff\xff\xff\xff\xff\xff\xff"), api.KindReal, sample.Real(sample.TheNaN)},
	{sample.Bytes("x"), api.KindText, sample.Text("x")},
	{sample.Text("true"), api.KindBool, sample.Bool(1)},
	{sample.Text("-9223372036854775808"), api.KindInt, sample.Int(api.MinInt)},
	{sample.Text("x"), api.KindBytes, sample.Bytes("x")},
}

// Values, and the errors that they tell as one of another kind.
var becomesNone = []struct {
	v    api.Value
	kind int
	err  api.Errno
}{
	{sample.Bool(1), api.KindBytes, api.ErrKind},
	{sample.Int(2), api.KindBool, api.ErrRange},
	{sample.Int(api.MaxInt), api.KindReal, api.ErrRange},
	{sample.Real(sample.Inf), api.KindBool, api.ErrRange},
	{sample.Real(sample.TheNaN), api.KindInt, api.ErrRange},
	{sample.Real(sample.One), api.KindText, api.ErrKind},
	{sample.Bytes("\x01"), api.KindBool, api.ErrKind},
	{sample.Bytes("1234567"), api.KindInt, api.ErrRange},
	{sample.Bytes("123456789"), api.KindReal, api.ErrRange},
	{sample.Bytes("\xff"), api.KindText, api.ErrText},
	{sample.Text("True"), api.KindBool, api.ErrText},
	{sample.Text("012"), api.KindInt, api.ErrText},
	{sample.Text(""), api.KindInt, api.ErrText},
	{sample.Text("1"), api.KindReal, api.ErrKind},
}

// eachAt hands on each size of a table that has columns behind its key, and each place of one.
func eachAt(yield func(size [2]int, place int) bool) {
	for keys, count := range sizes {
		for place := keys; place < count; place++ {
			if !yield([2]int{keys, count}, place) {
				return
			}
		}
	}
}

func TestRetype(t *testing.T) {
	for size, place := range eachAt {
		of := ints(size[0], size[1])
		for _, want := range becomes {
			from := put(row(size[1]), place, want.v)
			to := put(row(size[1]), place, want.to)
			u := changed(of, place, open("v", want.v.Kind))
			wantRow(t, u, retyping("t", "v", want.kind), from, to)
			wantRow(t, u, retyping("t", "v", want.kind), put(from, place, null()), put(from, place, null()))
			wantRow(t, changed(of, place, col("v", want.v.Kind)), retyping("t", "v", want.kind), from, to)
		}
		for _, no := range becomesNone {
			from := put(row(size[1]), place, no.v)
			u := changed(of, place, open("v", no.v.Kind))
			wantNoRow(t, u, retyping("t", "v", no.kind), from, no.err)
			// A null becomes null, even if no other value of the kind may become one of that kind.
			wantRow(t, u, retyping("t", "v", no.kind), put(from, place, null()), put(from, place, null()))
		}
	}
}

// Each value of each kind, as each kind, and as what is none.
func TestRetypeOfEachKind(t *testing.T) {
	kinds := append(slices.Clone(farOff), 0, 1, 2, 3, 4, 5, 6)
	for from := api.KindBool; from <= api.KindText; from++ {
		of := table("t", 1, col("k", api.KindInt), open("v", from), col("w", api.KindText))
		for _, kind := range kinds {
			c := retyping("t", "v", kind)
			for _, v := range append(sample.Some(from), null()) {
				r := list(num(1), v, text("w"))
				to, err := convert.To(v, kind)
				switch {
				case kind < 1 || kind > 5:
					wantNoRow(t, of, c, r, api.ErrKind)
				case v.Kind == kind:
					wantRow(t, of, c, r, r)
				case err != api.OK:
					wantNoRow(t, of, c, r, err)
				default:
					wantRow(t, of, c, r, list(num(1), to, text("w")))
				}
			}
		}
	}
}

func TestRetypeOfNoColumn(t *testing.T) {
	for keys, count := range sizes {
		of := ints(keys, count)
		for _, kind := range list(api.KindInt, api.KindText, api.KindBool, 0, 6) {
			for _, c := range of.Cols[:keys] {
				wantNoRow(t, of, retyping("t", c.Name, kind), row(count), api.ErrColumn)
			}
			for _, name := range list("", "c", "c8", "C1", "v", "t", sample.TooLong, "\xff") {
				wantNoRow(t, of, retyping("t", name, kind), row(count), api.ErrColumn)
			}
		}
	}
	wantNoRow(t, ints(3, 4), retyping("t", "c2", api.KindText), row(4), api.ErrColumn)
	wantRow(t, ints(3, 4), retyping("t", "c3", api.KindText), row(4), put(row(4), 3, text("13")))
}

func TestSplit(t *testing.T) {
	for _, want := range []struct {
		keys, count int
		names       []string
		to, also    []int
	}{
		{1, 1, nil, list(0), list(0)},
		{1, 2, nil, list(0), list(0, 1)},
		{1, 2, list("c1"), list(0, 1), list(0)},
		{1, 4, list("c1"), list(0, 1), list(0, 2, 3)},
		{1, 4, list("c2"), list(0, 2), list(0, 1, 3)},
		{1, 4, list("c3"), list(0, 3), list(0, 1, 2)},
		{1, 4, list("c1", "c3"), list(0, 1, 3), list(0, 2)},
		{1, 4, list("c3", "c1"), list(0, 1, 3), list(0, 2)},
		{1, 4, list("c3", "c2", "c1"), list(0, 1, 2, 3), list(0)},
		{1, 4, list("c2", "c3", "c1"), list(0, 1, 2, 3), list(0)},
		{2, 2, nil, list(0, 1), list(0, 1)},
		{2, 4, list("c3"), list(0, 1, 3), list(0, 1, 2)},
		{2, 4, nil, list(0, 1), list(0, 1, 2, 3)},
		{3, 3, nil, list(0, 1, 2), list(0, 1, 2)},
		{3, 4, list("c3"), list(0, 1, 2, 3), list(0, 1, 2)},
		{3, 7, list("c6", "c4"), list(0, 1, 2, 4, 6), list(0, 1, 2, 3, 5)},
		{1, 7, list("c6", "c5", "c4", "c3", "c2", "c1"), list(0, 1, 2, 3, 4, 5, 6), list(0)},
		{1, 8, list("c7"), list(0, 7), list(0, 1, 2, 3, 4, 5, 6)},
		{3, 8, list("c7", "c3"), list(0, 1, 2, 3, 7), list(0, 1, 2, 4, 5, 6)},
		{3, 8, nil, list(0, 1, 2), list(0, 1, 2, 3, 4, 5, 6, 7)},
		{3, 8, list("c3", "c4", "c5", "c6", "c7"), list(0, 1, 2, 3, 4, 5, 6, 7), list(0, 1, 2)},

		// What chapter 10's Targets refuses: names of no column, of the key's, and names twice move nothing.
		{1, 3, list("v"), list(0), list(0, 1, 2)},
		{1, 3, list("", "c", "C1", "c8", "t", "\xff"), list(0), list(0, 1, 2)},
		{1, 3, list("v", "c2", "w"), list(0, 2), list(0, 1)},
		{1, 3, list("c0"), list(0), list(0, 1, 2)},
		{1, 3, list("c0", "c1"), list(0, 1), list(0, 2)},
		{2, 3, list("c2", "c1"), list(0, 1, 2), list(0, 1)},
		{2, 3, list("c1"), list(0, 1), list(0, 1, 2)},
		{1, 3, list("c1", "c1"), list(0, 1), list(0, 2)},
		{1, 3, list("c0", "c0", "c2", "c2"), list(0, 2), list(0, 1)},
	} {
		of, from := ints(want.keys, want.count), row(want.count)
		wantRow(t, of, splitting("t", "a", "b", want.names...), from, at(from, want.to...), at(from, want.also...))
		// The names of the two tables play no part: which is the first is told by the change.
		wantRow(t, of, splitting("t", "b", "a", want.names...), from, at(from, want.to...), at(from, want.also...))
		wantRow(t, of, splitting("t", "", "", want.names...), from, at(from, want.to...), at(from, want.also...))
	}
}

// Each choice of columns, their names forwards and backwards.
func TestSplitOfEachChoice(t *testing.T) {
	for keys, count := range sizes {
		of, from := ints(keys, count), row(count)
		for choice := range 1 << (count - keys) {
			var names []string
			to, also := row(keys), row(keys)
			for i := keys; i < count; i++ {
				if choice>>(i-keys)&1 == 1 {
					names = append(names, of.Cols[i].Name)
					to = append(to, from[i])
				} else {
					also = append(also, from[i])
				}
			}
			wantRow(t, of, splitting("t", "a", "b", names...), from, to, also)
			slices.Reverse(names)
			wantRow(t, of, splitting("t", "a", "b", names...), from, to, also)
		}
	}
}

func TestMerge(t *testing.T) {
	for keys, count := range sizes {
		of := ints(keys, count)
		wantRow(t, of, merging("t", "u", "v"), row(count), row(count))
		wantRow(t, of, merging("u", "t", "v"), row(count), row(count))
		wantRow(t, of, merging("t", "u", "t"), row(count), row(count))
		wantRow(t, of, merging("t", "t", ""), row(count), row(count))
		wantNoRow(t, of, merging("u", "v", "t"), row(count), api.ErrArg)
	}
	wantRow(t, plain(), merging("u", "t", "u"), list(num(1), null()), list(num(1), null()))
}

// A table of one column of each kind, with a key of two: each Kind of change of it.
func TestEachKind(t *testing.T) {
	of := each()
	from := list(sample.Bool(1), num(-3), null(), sample.Bytes("5"), text("6"))
	wantRow(t, of, adding("every_kind", with(open("v", api.KindBytes), sample.Bytes("\xff"))), from, append(slices.Clone(from), sample.Bytes("\xff")))
	wantRow(t, of, dropping("every_kind", "ratio"), from, at(from, 0, 1, 3, 4))
	wantRow(t, of, dropping("every_kind", "raw"), from, at(from, 0, 1, 2, 4))
	wantRow(t, of, dropping("every_kind", "said"), from, at(from, 0, 1, 2, 3))
	wantNoRow(t, of, dropping("every_kind", "number"), from, api.ErrColumn)
	wantRow(t, of, retyping("every_kind", "ratio", api.KindInt), from, from)
	wantRow(t, of, retyping("every_kind", "raw", api.KindText), from, put(from, 3, text("5")))
	wantRow(t, of, retyping("every_kind", "said", api.KindInt), from, put(from, 4, num(6)))
	wantNoRow(t, of, retyping("every_kind", "raw", api.KindInt), from, api.ErrRange)
	wantNoRow(t, of, retyping("every_kind", "truth", api.KindInt), from, api.ErrColumn)
	wantRow(t, of, splitting("every_kind", "a", "b", "said", "ratio"), from, at(from, 0, 1, 2, 4), at(from, 0, 1, 3))
	wantRow(t, of, merging("t", "every_kind", "a"), from, from)
}
