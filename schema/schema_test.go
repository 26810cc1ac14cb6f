package schema_test

import (
	"slices"
	"strconv"
	"strings"

	"transom/api"
	"transom/sample"
)

// Names at the border of what a name may have: 16 bytes, and 17.
const (
	longest = "abcdefghijklmnop"
	tooLong = "abcdefghijklmnopq"
)

// Numbers that are no Keys and no Kind of any table.
var farOff = []int{api.MinInt, -256, -101, -100, -1, 9, 16, 100, 101, 127, 128, 255, 256, 257, 258, 1 << 32, 1<<32 + 1, api.MaxInt}

// kinds holds the kinds that a column may have.
var kinds = []int{api.KindBool, api.KindInt, api.KindReal, api.KindBytes, api.KindText}

// col tells a column that is not Null, and whose Default is null.
func col(name string, kind int) api.Col {
	return api.Col{Name: name, Kind: kind}
}

// open tells a column that is Null.
func open(name string, kind int) api.Col {
	return api.Col{Name: name, Kind: kind, Null: true}
}

// with tells c with that Default.
func with(c api.Col, v api.Value) api.Col {
	c.Default = v
	return c
}

// table tells a table of that name.
func table(name string, keys int, cols ...api.Col) api.Table {
	return api.Table{Name: name, Keys: keys, Cols: cols}
}

// row tells its arguments as a row.
func row(l ...api.Value) []api.Value {
	return l
}

// plain tells the chapter's example: a key column k, int, and a column v, text, Null.
func plain() api.Table {
	return table("t", 1, col("k", api.KindInt), open("v", api.KindText))
}

// ints tells a table of so many columns of numbers: c0, c1 and so on.
func ints(keys, count int) api.Table {
	t := table("t", keys)
	for i := range count {
		t.Cols = append(t.Cols, col("c"+strconv.Itoa(i), api.KindInt))
	}
	return t
}

// each tells a table of one column of each kind, the first two of which are the key.
func each() api.Table {
	return table("every_kind", 2,
		col("truth", api.KindBool),
		with(col("number", api.KindInt), sample.Int(-7)),
		with(open("ratio", api.KindReal), sample.Real(sample.One)),
		with(open("raw", api.KindBytes), sample.Bytes("\x00\xff")),
		with(col("said", api.KindText), sample.Text("\xc3\xa4")))
}

// full tells a row that fits each().
func full() []api.Value {
	return row(sample.Bool(1), sample.Int(-1), sample.Real(sample.Inf), sample.Bytes("\x00"), sample.Text("x"))
}

// some tells values of that kind that may be.
func some(kind int) []api.Value {
	switch kind {
	case api.KindNull:
		return row(sample.Null())
	case api.KindBool:
		return row(sample.Bool(0), sample.Bool(1))
	case api.KindInt:
		return row(sample.Int(0), sample.Int(1), sample.Int(-1), sample.Int(api.MinInt), sample.Int(api.MaxInt))
	case api.KindReal:
		return row(sample.Real(0), sample.Real(sample.Sign), sample.Real(sample.One), sample.Real(sample.Most), sample.Real(sample.Inf), sample.Real(sample.TheNaN))
	case api.KindBytes:
		return row(sample.Bytes(""), sample.Bytes("\x00"), sample.Bytes("\xff\x00\x00"), sample.Bytes(strings.Repeat("\x00", api.MaxText)))
	}
	return row(sample.Text(""), sample.Text("\x00"), sample.Text("\xc3\xa4"), sample.Text(strings.Repeat("t", api.MaxText)))
}

// good tells tables that may be, all afresh, so that a test may change them.
func good() []api.Table {
	l := []api.Table{
		plain(), each(),
		table("a", 1, col("a", api.KindBool)), // a table and its column may have one name
		table(longest, 1, col(longest, api.KindText)),
		table("z_9", 3, col("k", api.KindText), col("k0", api.KindBytes), col("k_", api.KindReal), open("o", api.KindBool)),
		table("o", 1, col("k", api.KindInt), open("a", api.KindInt), col("b", api.KindInt), open("c", api.KindInt)),
	}
	for _, kind := range kinds {
		l = append(l, table("one", 1, col("k", kind)))
		for _, v := range append(some(kind), sample.Null()) {
			l = append(l,
				table("key", 1, with(col("k", kind), v)),
				table("col", 1, col("k", api.KindInt), with(col("c", kind), v)),
				table("open", 1, col("k", api.KindInt), with(open("c", kind), v)))
		}
	}
	for count := 1; count <= api.MaxCols; count++ {
		for keys := 1; keys <= min(count, api.MaxKeys); keys++ {
			l = append(l, ints(keys, count))
		}
	}
	return l
}

// copied tells t with columns of its own.
func copied(t api.Table) api.Table {
	t.Cols = slices.Clone(t.Cols)
	return t
}

// alike tells whether a and b are the same in all, in the language's own words.
func alike(a, b api.Table) bool {
	return a.Name == b.Name && a.Keys == b.Keys && slices.Equal(a.Cols, b.Cols)
}

// none tells whether t is the zero Table.
func none(t api.Table) bool {
	return t.Name == "" && t.Keys == 0 && len(t.Cols) == 0
}
