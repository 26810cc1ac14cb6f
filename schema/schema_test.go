package schema_test

import (
	"transom/api"
	"transom/sample"
)

// The words of package sample, in short.
const (
	longest = sample.Longest
	tooLong = sample.TooLong
)

var (
	col     = sample.Col
	open    = sample.Open
	with    = sample.With
	table   = sample.Table
	plain   = sample.Plain
	ints    = sample.Ints
	each    = sample.Each
	renamed = sample.Renamed
	changed = sample.Changed
	copied  = sample.Copied
	alike   = sample.Alike
	some    = sample.Some
)

// Numbers that are no Keys and no Kind of any table.
var farOff = []int{api.MinInt, -256, -101, -100, -1, 9, 16, 100, 101, 127, 128, 255, 256, 257, 258, 1 << 32, 1<<32 + 1, api.MaxInt}

// kinds holds the kinds that a column may have.
var kinds = []int{api.KindBool, api.KindInt, api.KindReal, api.KindBytes, api.KindText}

// row tells its arguments as a row.
func row(l ...api.Value) []api.Value {
	return l
}

// full tells a row that fits each().
func full() []api.Value {
	return row(sample.Bool(1), sample.Int(-1), sample.Real(sample.Inf), sample.Bytes("\x00"), sample.Text("x"))
}

// good tells tables that may be, all afresh, so that a test may change them.
func good() []api.Table {
	l := []api.Table{
		plain(), each(),
		table("a", 1, col("a", api.KindBool)), // a table and its column may have one name
		table(longest, 1, col(longest, api.KindText)),
		table("z_9", 3, col("k", api.KindText), col("k0", api.KindBytes), col("k_", api.KindReal), open("o", api.KindBool)),
		table("o", 1, col("k", api.KindInt), open("a", api.KindInt), col("b", api.KindInt), open("c", api.KindInt)),
	}
	for _, kind := range kinds {
		l = append(l, table("one", 1, col("k", kind)))
		for _, v := range append(some(kind), sample.Null()) {
			l = append(l,
				table("key", 1, with(col("k", kind), v)),
				table("col", 1, col("k", api.KindInt), with(col("c", kind), v)),
				table("open", 1, col("k", api.KindInt), with(open("c", kind), v)))
		}
	}
	for count := 1; count <= api.MaxCols; count++ {
		for keys := 1; keys <= min(count, api.MaxKeys); keys++ {
			l = append(l, ints(keys, count))
		}
	}
	return l
}

// none tells whether t is the zero Table.
func none(t api.Table) bool {
	return t.Name == "" && t.Keys == 0 && len(t.Cols) == 0
}
