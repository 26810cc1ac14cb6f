package schema_test

import (
	"math/rand"
	"slices"
	"strings"
	"testing"

	"transom/api"
	"transom/keycode"
	"transom/sample"
	"transom/schema"
	"transom/values"
)

// wantFits holds Fits of row, and what Key tells of it, against want: beside an error there is no key.
func wantFits(t *testing.T, u api.Table, l []api.Value, want api.Errno) {
	t.Helper()
	if err := schema.Fits(u, l); err != want {
		t.Errorf("Fits(%+v, %+v) = %d, not %d", u, l, err, want)
	}
	key := ""
	if want == api.OK {
		key, _ = keycode.Row(l[:u.Keys])
	}
	if got, err := schema.Key(u, l); got != key || err != want {
		t.Errorf("Key(%+v, %+v) = %q, %d, not %q, %d", u, l, got, err, key, want)
	}
}

// wantKey holds FitsKey against want.
func wantKey(t *testing.T, u api.Table, key []api.Value, whole bool, want api.Errno) {
	t.Helper()
	if err := schema.FitsKey(u, key, whole); err != want {
		t.Errorf("FitsKey(%+v, %+v, %v) = %d, not %d", u, key, whole, err, want)
	}
}

// The chapter's example: the row 1, null fits.
func TestFitsExample(t *testing.T) {
	wantFits(t, plain(), row(sample.Int(1), sample.Null()), api.OK)
	if key, err := schema.Key(plain(), row(sample.Int(1), sample.Null())); key != "\x02\x80\x00\x00\x00\x00\x00\x00\x01" || err != api.OK {
		t.Errorf("Key of 1, null = %q, %d", key, err)
	}
}

func TestFits(t *testing.T) {
	one, null, x := sample.Int(1), sample.Null(), sample.Text("x")
	for _, want := range []struct {
		l   []api.Value
		err api.Errno
	}{
		{row(one, x), api.OK},
		{row(sample.Int(api.MinInt), sample.Text("")), api.OK},

		{nil, api.ErrType},
		{row(), api.ErrType},
		{row(one), api.ErrType},
		{row(one, x, null), api.ErrType},
		{make([]api.Value, 258), api.ErrType},
		{row(null, x), api.ErrType},
		{row(null, null), api.ErrType},
		{row(sample.Bool(1), x), api.ErrType},
		{row(sample.Real(sample.One), x), api.ErrType},
		{row(one, one), api.ErrType},
		{row(one, sample.Bytes("x")), api.ErrType},

		{row(one, sample.Text("\xff")), api.ErrText},
		{row(one, sample.Text(strings.Repeat("t", 65))), api.ErrLimit},
		{row(sample.Bool(2), x), api.ErrRange},
		{row(api.Value{Kind: api.KindInt, N: 1, S: "s"}, x), api.ErrForm},
		{row(one, api.Value{N: 1}), api.ErrForm},
		{row(one, api.Value{Kind: 6}), api.ErrKind},

		// Two faults at once: how many there are is asked first, then value by value.
		{row(sample.Bool(2)), api.ErrType},
		{row(one, sample.Text("\xff"), x), api.ErrType},
		{row(null, sample.Text("\xff")), api.ErrType},
		{row(sample.Text("\xff"), one), api.ErrText},
		{row(sample.Bool(2), sample.Text("\xff")), api.ErrRange},
		{row(sample.Text("\xff"), sample.Bool(2)), api.ErrText},
		{row(api.Value{Kind: 6}, null), api.ErrKind},
	} {
		wantFits(t, plain(), want.l, want.err)
	}
	wantFits(t, each(), full(), api.OK)
	wantFits(t, each(), row(sample.Bool(0), sample.Int(0), sample.Null(), sample.Null(), sample.Text("")), api.OK)
}

// Each value at each column, Null and not, and as the key.
func TestFitsOfEachKindInEachColumn(t *testing.T) {
	for _, kind := range kinds {
		for got := api.KindNull; got <= api.KindText; got++ {
			for _, v := range some(got) {
				want, null := api.ErrType, api.ErrType
				if got == kind {
					want, null = api.OK, api.OK
				}
				if got == api.KindNull {
					null = api.OK
				}
				k := sample.Int(1)
				wantFits(t, table("t", 1, col("k", kind)), row(v), want)
				wantFits(t, table("t", 1, col("k", api.KindInt), col("c", kind)), row(k, v), want)
				wantFits(t, table("t", 1, col("k", api.KindInt), open("c", kind)), row(k, v), null)
				wantKey(t, table("t", 1, col("k", kind)), row(v), true, want)
				wantKey(t, table("t", 1, col("k", kind), open("c", kind)), row(v), false, want)
			}
		}
	}
}

// A value that may not be has its own error, even if its kind is another one than the column's.
func TestFitsOfValuesThatMayNotBe(t *testing.T) {
	for _, wrong := range sample.Refused() {
		for _, kind := range kinds {
			u := table("t", 1, col("k", kind))
			wantFits(t, u, row(wrong.Value), wrong.Err)
			wantKey(t, u, row(wrong.Value), true, wrong.Err)
			wantKey(t, u, row(wrong.Value), false, wrong.Err)
		}
		for _, null := range []bool{false, true} {
			u := table("t", 1, col("k", api.KindInt), api.Col{Name: "c", Kind: api.KindText, Null: null})
			wantFits(t, u, row(sample.Int(1), wrong.Value), wrong.Err)
		}
	}
}

// Rows of each size, of tables of each size; keys likewise.
func TestFitsOfEachSize(t *testing.T) {
	for count := 1; count <= api.MaxCols; count++ {
		for keys := 1; keys <= min(count, api.MaxKeys); keys++ {
			u := ints(keys, count)
			for size := range 20 {
				l := make([]api.Value, size)
				for i := range l {
					l[i] = sample.Int(i - 3)
				}
				row, whole, part := api.ErrType, api.ErrType, api.ErrType
				if size == count {
					row = api.OK
				}
				if size == keys {
					whole = api.OK
				}
				if size <= keys {
					part = api.OK
				}
				wantFits(t, u, l, row)
				wantKey(t, u, l, true, whole)
				wantKey(t, u, l, false, part)
			}
		}
	}
}

func TestFitsKey(t *testing.T) {
	u := table("t", 2, col("a", api.KindText), col("b", api.KindBool), open("c", api.KindText))
	x, yes, null := sample.Text("x"), sample.Bool(1), sample.Null()
	for _, want := range []struct {
		key         []api.Value
		whole, part api.Errno
	}{
		{nil, api.ErrType, api.OK},
		{row(), api.ErrType, api.OK},
		{row(x), api.ErrType, api.OK},
		{row(x, yes), api.OK, api.OK},
		{row(x, yes, x), api.ErrType, api.ErrType},
		{row(x, yes, null), api.ErrType, api.ErrType},
		{make([]api.Value, 258), api.ErrType, api.ErrType},
		{row(null), api.ErrType, api.ErrType},
		{row(x, null), api.ErrType, api.ErrType},
		{row(yes), api.ErrType, api.ErrType},
		{row(yes, x), api.ErrType, api.ErrType},
		{row(x, x), api.ErrType, api.ErrType},
		{row(x, sample.Bool(2)), api.ErrRange, api.ErrRange},
		{row(sample.Text("\xff"), yes), api.ErrText, api.ErrText},

		// Two faults at once: how many there are is asked first, then value by value.
		{row(sample.Text("\xff")), api.ErrType, api.ErrText},
		{row(api.Value{Kind: 6}), api.ErrType, api.ErrKind},
		{row(sample.Text("\xff"), yes, x), api.ErrType, api.ErrType},
		{row(sample.Text("\xff"), sample.Bool(2)), api.ErrText, api.ErrText},
		{row(sample.Bool(2), sample.Text("\xff")), api.ErrRange, api.ErrRange},
		{row(null, sample.Bool(2)), api.ErrType, api.ErrType},
		{row(api.Value{N: 1}, null), api.ErrForm, api.ErrForm},
	} {
		wantKey(t, u, want.key, true, want.whole)
		wantKey(t, u, want.key, false, want.part)
	}
}

// The key's bytes are those of the first Keys values alone, in their order.
func TestKey(t *testing.T) {
	for _, want := range []struct {
		u   api.Table
		l   []api.Value
		key string
	}{
		{each(), full(), "\x01\x01\x02\x7f\xff\xff\xff\xff\xff\xff\xff"},
		{table("t", 1, col("k", api.KindText), col("c", api.KindText)), row(sample.Text("a\x00"), sample.Text("b")), "\x05a\x00\xff\x00\x00"},
		{table("t", 2, col("k", api.KindText), col("c", api.KindText)), row(sample.Text(""), sample.Text("b")), "\x05\x00\x00\x05b\x00\x00"},
		{table("t", 1, col("k", api.KindBytes)), row(sample.Bytes("")), "\x04\x00\x00"},
		{table("t", 3, col("a", api.KindBool), col("b", api.KindBool), col("c", api.KindBool)), row(sample.Bool(1), sample.Bool(0), sample.Bool(1)), "\x01\x01\x01\x00\x01\x01"},
		{table("t", 1, col("k", api.KindReal)), row(sample.Real(sample.Sign)), "\x03\x7f\xff\xff\xff\xff\xff\xff\xff"},
	} {
		if key, err := schema.Key(want.u, want.l); key != want.key || err != api.OK {
			t.Errorf("Key(%+v, %+v) = %q, %d, not %q", want.u, want.l, key, err, want.key)
		}
	}
}

// Of what is no table its error is told ahead of all that is wrong with the row.
func TestFitsOfWhatIsNoTable(t *testing.T) {
	for _, no := range bad {
		fit := make([]api.Value, len(no.t.Cols))
		for i, c := range no.t.Cols {
			fit[i] = api.Value{Kind: c.Kind}
		}
		for _, l := range [][]api.Value{nil, row(), fit, row(sample.Int(1)), row(sample.Bool(2)), row(api.Value{Kind: 6}), row(sample.Text("\xff"), sample.Null()), make([]api.Value, 20)} {
			wantFits(t, no.t, l, no.err)
			wantKey(t, no.t, l, true, no.err)
			wantKey(t, no.t, l, false, no.err)
		}
	}
}

// firstOf tells what is wrong first with l's values in these columns, in the chapter's order.
func firstOf(cols []api.Col, l []api.Value) api.Errno {
	for i, v := range l {
		err := values.Check(v)
		switch {
		case err != api.OK:
			return err
		case v == api.Value{}:
			if !cols[i].Null {
				return api.ErrType
			}
		case v.Kind != cols[i].Kind:
			return api.ErrType
		}
	}
	return api.OK
}

// anyRow tells a row that is right for cols but for a fault now and then.
func anyRow(r *rand.Rand, cols []api.Col) []api.Value {
	l := make([]api.Value, len(cols))
	for i, c := range cols {
		kind := c.Kind
		if c.Null && r.Intn(2) == 0 {
			kind = api.KindNull
		}
		of := some(kind)
		l[i] = of[r.Intn(len(of))]
		if r.Intn(20) == 0 {
			l[i] = anyValue(r, 3)
		}
	}
	switch r.Intn(12) {
	case 0:
		return l[:r.Intn(len(l)+1)]
	case 1:
		return append(l, anyValue(r, 3))
	}
	return l
}

func TestFitsOfManyRows(t *testing.T) {
	r := rand.New(rand.NewSource(92))
	fit := 0
	for range 100000 {
		u := anyTable(r)
		l := anyRow(r, u.Cols)
		want := wantTable(u)
		if want == api.OK {
			want = api.ErrType
			if len(l) == len(u.Cols) {
				want = firstOf(u.Cols, l)
			}
		}
		if want == api.OK {
			fit++
		}
		wantFits(t, u, l, want)

		key := anyRow(r, u.Cols[:max(0, min(u.Keys, len(u.Cols)))])
		for _, whole := range []bool{false, true} {
			want := wantTable(u)
			if want == api.OK {
				want = api.ErrType
				if len(key) == u.Keys || len(key) < u.Keys && !whole {
					want = firstOf(u.Cols, key)
				}
			}
			wantKey(t, u, key, whole, want)
		}
		if t.Failed() {
			t.FailNow()
		}
	}
	if fit < 10000 {
		t.Errorf("%d rows alone fit", fit)
	}
}

// Nothing that is handed in is changed: neither the table, nor the row, nor what stands behind the row in its memory.
func TestFitsChangesNothing(t *testing.T) {
	u, l := each(), append(full(), sample.Text("behind"))
	schema.Fits(u, l[:5])
	schema.Key(u, l[:5])
	schema.FitsKey(u, l[:2], true)
	schema.FitsKey(u, l[:1], false)
	schema.Find(u, "said")
	schema.Check(u)
	if !alike(u, each()) || !slices.Equal(l, append(full(), sample.Text("behind"))) {
		t.Errorf("changed to %+v, %+v", u, l)
	}
}
