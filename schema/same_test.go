package schema_test

import (
	"testing"

	"transom/api"
	"transom/sample"
	"transom/schema"
)

// wantSame holds Same of a and b, and of b and a, against want.
func wantSame(t *testing.T, a, b api.Table, want bool) {
	t.Helper()
	if schema.Same(a, b) != want || schema.Same(b, a) != want {
		t.Errorf("Same(%+v, %+v) = %v, the other way %v, not %v", a, b, schema.Same(a, b), schema.Same(b, a), want)
	}
}

func TestSame(t *testing.T) {
	for i, a := range good() {
		for j, b := range good() {
			wantSame(t, a, b, alike(a, b))
			if i == j {
				wantSame(t, a, copied(b), true)
			}
		}
	}
}

// Two tables that differ in one field alone.
func TestSameOfOneFieldThatDiffers(t *testing.T) {
	for _, change := range []func(*api.Table){
		func(t *api.Table) { t.Name = "u" },
		func(t *api.Table) { t.Name = "" },
		func(t *api.Table) { t.Keys = 1 },
		func(t *api.Table) { t.Keys = 3 },
		func(t *api.Table) { t.Cols = t.Cols[:4] },
		func(t *api.Table) { t.Cols = nil },
		func(t *api.Table) { t.Cols = append(t.Cols, api.Col{}) },
		func(t *api.Table) { t.Cols[0], t.Cols[1] = t.Cols[1], t.Cols[0] },
		func(t *api.Table) { t.Cols[0].Name = "truths" },
		func(t *api.Table) { t.Cols[4].Name = "sai" },
		func(t *api.Table) { t.Cols[0].Kind = api.KindText },
		func(t *api.Table) { t.Cols[4].Kind = api.KindBytes },
		func(t *api.Table) { t.Cols[0].Null = true },
		func(t *api.Table) { t.Cols[2].Null = false },
		func(t *api.Table) { t.Cols[4].Null = true },
		func(t *api.Table) { t.Cols[0].Default = sample.Bool(0) },
		func(t *api.Table) { t.Cols[1].Default.N = 7 },
		func(t *api.Table) { t.Cols[1].Default.Kind = api.KindBool },
		func(t *api.Table) { t.Cols[1].Default.Bits = 1 },
		func(t *api.Table) { t.Cols[2].Default.Bits++ },
		func(t *api.Table) { t.Cols[2].Default.Bits |= sample.Sign },
		func(t *api.Table) { t.Cols[4].Default.Kind = api.KindBytes },
		func(t *api.Table) { t.Cols[4].Default.S = "\xc3\xa5" },
		func(t *api.Table) { t.Cols[4].Default = sample.Null() },
	} {
		u := each()
		change(&u)
		wantSame(t, each(), u, false)
	}
}

// Values that stand at one place in an order, or have the same fields but for the kind, are not the same.
func TestSameOfDefaultsThatAreNearlyTheSame(t *testing.T) {
	of := func(v api.Value) api.Table { return table("t", 1, with(col("k", api.KindReal), v)) }
	l := row(
		sample.Real(0), sample.Real(sample.Sign), sample.Real(sample.TheNaN), sample.Real(sample.TheNaN+1), sample.Real(sample.Sign|sample.TheNaN),
		sample.Null(), sample.Bool(0), sample.Int(0), sample.Bytes(""), sample.Text(""), sample.Bool(1), sample.Int(1), sample.Bytes("x"), sample.Text("x"))
	for i, v := range l {
		for j, w := range l {
			wantSame(t, of(v), of(w), i == j)
		}
	}
}

// Whether a table may be is not asked; and no columns are the same, nil or not.
func TestSameOfWhatIsNoTable(t *testing.T) {
	wantSame(t, api.Table{}, api.Table{}, true)
	wantSame(t, api.Table{}, api.Table{Cols: []api.Col{}}, true)
	wantSame(t, api.Table{}, plain(), false)
	wantSame(t, table("", -1, col("", 9)), table("", -1, col("", 9)), true)
	wantSame(t, table("", -1, col("", 9)), table("", -1, col("", 10)), false)
	for i, a := range bad {
		wantSame(t, a.t, copied(a.t), true)
		for _, b := range bad[:i] {
			wantSame(t, a.t, b.t, alike(a.t, b.t))
		}
	}
}

// Columns that stand behind a table's own in its memory play no part; nothing is changed.
func TestSameChangesNothing(t *testing.T) {
	long := each()
	a, b := long, each()
	a.Cols = long.Cols[:3]
	b.Cols = b.Cols[:3:3]
	wantSame(t, a, b, true)
	if !alike(long, each()) || !alike(a, b) {
		t.Errorf("changed to %+v, %+v", long, b)
	}
}
