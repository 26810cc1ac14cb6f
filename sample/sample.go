// Package sample makes values, tables, rows, changes and what is asked, and lists with room behind them, for the tests of all layers; no layer calls it. It asks nothing of what it is given, so that what may not be can be made, too.
package sample

import (
	"strings"

	"transom/api"
)

// Reals that the tests speak of, and the bit of a real's sign.
const (
	Sign   = 1 << 63
	One    = 0x3ff0000000000000
	Most   = 0x7fefffffffffffff // the greatest that is a number
	Inf    = 0x7ff0000000000000
	TheNaN = 0x7ff8000000000000
)

// Null tells the null.
func Null() api.Value { return api.Value{Kind: api.KindNull} }

// Bool tells a truth: false of 0, true of 1.
func Bool(n int) api.Value { return api.Value{Kind: api.KindBool, N: n} }

// Int tells a number.
func Int(n int) api.Value { return api.Value{Kind: api.KindInt, N: n} }

// Real tells a real by its bits.
func Real(bits uint64) api.Value { return api.Value{Kind: api.KindReal, Bits: bits} }

// Bytes tells bytes.
func Bytes(s string) api.Value { return api.Value{Kind: api.KindBytes, S: s} }

// Text tells a text.
func Text(s string) api.Value { return api.Value{Kind: api.KindText, S: s} }

// Some tells values of that kind that may be: the null alone, if there is no such kind.
func Some(kind int) []api.Value {
	switch kind {
	case api.KindBool:
		return []api.Value{Bool(0), Bool(1)}
	case api.KindInt:
		return []api.Value{Int(0), Int(1), Int(-1), Int(api.MinInt), Int(api.MaxInt)}
	case api.KindReal:
		return []api.Value{Real(0), Real(Sign), Real(One), Real(Most), Real(Inf), Real(TheNaN)}
	case api.KindBytes:
		return []api.Value{Bytes(""), Bytes("\x00"), Bytes("\xff\x00\x00"), Bytes(strings.Repeat("\x00", api.MaxText))}
	case api.KindText:
		return []api.Value{Text(""), Text("\x00"), Text("\xc3\xa4"), Text(strings.Repeat("t", api.MaxText))}
	}
	return []api.Value{Null()}
}

// Wrong is a value that may not be, and the error that chapter 4's Check tells of it.
type Wrong struct {
	Value api.Value
	Err   api.Errno
}

// Refused tells values that may not be: some of each kind, and of each error.
func Refused() []Wrong {
	return []Wrong{
		{api.Value{Kind: -1}, api.ErrKind},
		{api.Value{Kind: 6}, api.ErrKind},
		{api.Value{Kind: 256}, api.ErrKind},
		{api.Value{Kind: 256 + api.KindInt, N: 1}, api.ErrKind},
		{api.Value{Kind: api.MinInt}, api.ErrKind},
		{api.Value{Kind: api.MaxInt}, api.ErrKind},
		{api.Value{Kind: api.KindNull, N: 1}, api.ErrForm},
		{api.Value{Kind: api.KindNull, S: "s"}, api.ErrForm},
		{api.Value{Kind: api.KindBool, Bits: 1}, api.ErrForm},
		{api.Value{Kind: api.KindInt, S: "s"}, api.ErrForm},
		{api.Value{Kind: api.KindReal, N: 1}, api.ErrForm},
		{api.Value{Kind: api.KindBytes, N: 1, S: "s"}, api.ErrForm},
		{api.Value{Kind: api.KindText, Bits: 1}, api.ErrForm},
		{api.Value{Kind: api.KindText, Bits: 1, S: "\xff"}, api.ErrForm},
		{Bool(-1), api.ErrRange},
		{Bool(2), api.ErrRange},
		{Bool(256), api.ErrRange},
		{Real(Inf | 1), api.ErrForm},
		{Real(TheNaN + 1), api.ErrForm},
		{Real(Sign | TheNaN), api.ErrForm},
		{Real(1<<64 - 1), api.ErrForm},
		{Bytes(strings.Repeat("o", 65)), api.ErrLimit},
		{Bytes(strings.Repeat("\x00", 65)), api.ErrLimit},
		{Text(strings.Repeat("t", 65)), api.ErrLimit},
		{Text(strings.Repeat("t", 64) + "\xff"), api.ErrLimit},
		{Text("\xff"), api.ErrText},
		{Text("a\xc3"), api.ErrText},
		{Text("\x00\xff"), api.ErrText},
	}
}
