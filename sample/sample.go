// Package sample makes values for the tests of all layers; no layer calls it. It asks nothing of what it is given, so that values that may not be can be made, too.
package sample

import (
	"transom/api"
)

// Reals that the tests speak of, and the bit of a real's sign.
const (
	Sign   = 1 << 63
	One    = 0x3ff0000000000000
	Most   = 0x7fefffffffffffff // the greatest that is a number
	Inf    = 0x7ff0000000000000
	TheNaN = 0x7ff8000000000000
)

// Null tells the null.
func Null() api.Value { return api.Value{Kind: api.KindNull} }

// Bool tells a truth: false of 0, true of 1.
func Bool(n int) api.Value { return api.Value{Kind: api.KindBool, N: n} }

// Int tells a number.
func Int(n int) api.Value { return api.Value{Kind: api.KindInt, N: n} }

// Real tells a real by its bits.
func Real(bits uint64) api.Value { return api.Value{Kind: api.KindReal, Bits: bits} }

// Bytes tells bytes.
func Bytes(s string) api.Value { return api.Value{Kind: api.KindBytes, S: s} }

// Text tells a text.
func Text(s string) api.Value { return api.Value{Kind: api.KindText, S: s} }
