package model_test

import (
	"strings"
	"testing"

	"transom/api"
	"transom/model"
	"transom/sample"
)

// Numbers that are no Kind of what is asked.
var farOff = []int{api.MinInt, -256, -9, -1, 0, 10, 11, 255, 256, 257, 265, 1 << 32, 1<<32 + 1, 1<<32 + 9, api.MaxInt}

// Numbers that are no Max of an OpScan.
var noMax = []int{api.MinInt, -64, -1, 0, 65, 66, 128, 256, 257, 1 << 32, 1<<32 + 1, api.MaxInt}

// wantCheck holds CheckOp against an error.
func wantCheck(t *testing.T, o api.Op, want api.Errno) {
	t.Helper()
	own := sample.RoomyOp(o)
	if err := model.CheckOp(own); err != want {
		t.Errorf("CheckOp(%+v) = %d, not %d", o, err, want)
	}
	if !sample.KeptOp(own, o) {
		t.Errorf("CheckOp changed %+v to %+v", o, own)
	}
}

func TestCheckOp(t *testing.T) {
	for kind := api.OpGet; kind <= api.OpAbort; kind++ {
		// What else an op holds plays no part: neither where there is nothing, nor where all may not be.
		for _, o := range list(api.Op{}, junk()) {
			o.Kind = kind
			if kind != api.OpScan {
				for _, most := range append(noMax, 1, 64) {
					o.Max = most
					wantCheck(t, o, api.OK)
				}
				continue
			}
			for most := 1; most <= 64; most++ {
				o.Max = most
				wantCheck(t, o, api.OK)
			}
			for _, most := range noMax {
				o.Max = most
				wantCheck(t, o, api.ErrArg)
			}
		}
	}
	for _, kind := range farOff {
		for _, o := range list(api.Op{}, junk(), scanning("t", nil, nil, 1)) {
			o.Kind = kind
			wantCheck(t, o, api.ErrArg)
		}
	}
}

// The bytes of keys, as chapter 5 tells them: a number's, and a text's.
const (
	one   = "\x02\x80\x00\x00\x00\x00\x00\x00\x01"
	two   = "\x02\x80\x00\x00\x00\x00\x00\x00\x02"
	wordA = "\x05a\x00\x00"
)

func TestBounds(t *testing.T) {
	none := list[api.Value]()
	wantBounds(t, plain(), nil, nil, "", "")
	wantBounds(t, plain(), none, none, "", "")
	wantBounds(t, plain(), list(num(1)), nil, one, "")
	wantBounds(t, plain(), nil, list(num(2)), "", two)
	wantBounds(t, plain(), list(num(1)), list(num(2)), one, two)
	wantBounds(t, plain(), list(num(2)), list(num(1)), two, one) // Hi may be the less
	wantBounds(t, plain(), list(num(2)), list(num(2)), two, two)
	of := table("t", 3, col("k", api.KindInt), col("l", api.KindText), col("m", api.KindInt), open("v", api.KindInt))
	parts := list(none, list(num(1)), list(num(1), text("a")), list(num(1), text("a"), num(2)))
	bytes := list("", one, one+wordA, one+wordA+two)
	for i, lo := range parts {
		for j, hi := range parts {
			wantBounds(t, of, lo, hi, bytes[i], bytes[j])
		}
	}
	// A key is of the first columns, as many as Keys says: columns behind it, which may be null, play no part.
	for keys, count := range sizes {
		for size := range keys + 1 {
			l := list(num(1), num(1), num(1))[:size]
			wantBounds(t, ints(keys, count), l, l, strings.Repeat(one, size), strings.Repeat(one, size))
		}
	}
	wantBounds(t, each(), list(sample.Bool(1)), list(sample.Bool(1), num(2)), "\x01\x01", "\x01\x01"+two)
	// All values of a key column's kind, as chapter 5 tells them.
	wantBounds(t, table("t", 1, col("k", api.KindReal)), list(sample.Real(sample.One)), nil, "\x03\xbf\xf0\x00\x00\x00\x00\x00\x00", "")
	wantBounds(t, table("t", 1, col("k", api.KindBytes)), list(sample.Bytes("")), list(sample.Bytes("\x00b")), "\x04\x00\x00", "\x04\x00\xffb\x00\x00")
}

// noBegin is a list that is no beginning of a key of numbers, and the error that chapter 9's FitsKey tells of it.
type noBegin struct {
	l   []api.Value
	err api.Errno
}

// noBegins tells lists that are no beginnings of a key of two numbers.
func noBegins() []noBegin {
	l := []noBegin{
		{list(num(1), num(2), num(3)), api.ErrType},
		{list(num(1), num(2), null()), api.ErrType},
		{list(sample.Bool(2), num(2), num(3)), api.ErrType}, // too many is told ahead of a value
		{list(null()), api.ErrType},
		{list(num(1), null()), api.ErrType},
		{list(text("1")), api.ErrType},
		{list(num(1), text("1")), api.ErrType},
		{list(sample.Bool(1)), api.ErrType},
		{list(sample.Real(0)), api.ErrType},
		{list(null(), sample.Bool(2)), api.ErrType}, // the first value's is told
		{list(text("1"), text("\xff")), api.ErrType},
		{list(text("\xff"), null()), api.ErrText},
	}
	for _, no := range refused() {
		l = append(l, noBegin{list(no.Value), no.Err}, noBegin{list(num(1), no.Value), no.Err}, noBegin{list(no.Value, null()), no.Err})
	}
	return l
}

func TestBoundsOfWhatIsNoKey(t *testing.T) {
	of := ints(2, 4)
	right := list(nil, list(num(1)), list(num(1), num(2)))
	for _, no := range noBegins() {
		for _, l := range right {
			wantNoBounds(t, of, no.l, l, no.err)
			wantNoBounds(t, of, l, no.l, no.err)
		}
		// Of two faults that of Lo is told.
		for _, other := range noBegins() {
			wantNoBounds(t, of, no.l, other.l, no.err)
		}
	}
}

// A table that may not be has no keys: why is told ahead of all.
func TestBoundsOfWhatIsNoTable(t *testing.T) {
	for _, no := range sample.RefusedTables() {
		for _, l := range list(nil, list(num(1)), list(text("\xff")), make([]api.Value, 9)) {
			wantNoBounds(t, no.Table, l, nil, no.Err)
			wantNoBounds(t, no.Table, nil, l, no.Err)
		}
	}
}
