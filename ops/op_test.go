package ops_test

import (
	"strings"
	"testing"

	"transom/api"
	"transom/sample"
)

// none is the bytes of a row of no values, as a text.
const none = "\x01\x00"

// bytesOfOps holds ops, and the bytes that promise 14.2 says of them.
var bytesOfOps = []struct {
	o api.Op
	s string
}{
	{sample.Getting("t", num(1)), "\x01\x01t" + "\x03\x01\x02\x02" + none + none + "\x00"},
	{sample.Scanning("t", nil, nil, 1), "\x02\x01t" + none + none + none + "\x01"},
	{sample.Scanning("t", list(num(-1)), nil, 64), "\x02\x01t" + none + "\x03\x01\x02\x01" + none + "\x40"},
	{sample.Scanning("t", nil, list(num(1), null()), 64), "\x02\x01t" + none + none + "\x04\x02\x02\x02\x00" + "\x40"},
	{sample.Scanning("t", list(said("a")), list(sample.Bool(1)), 0), "\x02\x01t" + none + "\x04\x01\x05\x01a" + "\x03\x01\x01\x01" + "\x00"},
	{sample.Inserting("t", num(1), null()), "\x03\x01t" + "\x04\x02\x02\x02\x00" + none + none + "\x00"},
	{sample.Updating("t", num(64), said("x")), "\x04\x01t" + "\x07\x02\x02\x80\x01\x05\x01x" + none + none + "\x00"},
	{sample.Deleting("t", sample.Bytes("\x00")), "\x05\x01t" + "\x04\x01\x04\x01\x00" + none + none + "\x00"},
	{sample.Deleting("t", sample.Real(sample.One)), "\x05\x01t" + "\x0a\x01\x03\x3f\xf0\x00\x00\x00\x00\x00\x00" + none + none + "\x00"},
	{changing(merging("a", "b", "c")), "\x06\x00" + none + none + none + "\x00" + "\x06\x01a\x01b\x01c\x00\x00\x00\x00"},
	{changing(creating(ints(1, 1))), "\x06\x00" + none + none + none + "\x00" + "\x01\x00\x00\x00\x00\x00\x00\x00" + "\x01t\x01\x01\x02c0\x02\x00\x00"},
	{api.Op{Kind: api.OpBegin}, "\x07\x00" + none + none + none + "\x00"},
	{api.Op{Kind: api.OpCommit}, "\x08\x00" + none + none + none + "\x00"},
	{api.Op{Kind: api.OpAbort}, "\x09\x00" + none + none + none + "\x00"},

	// All fields but for Change are written of each Kind, and Table need be no name.
	{api.Op{Kind: api.OpGet, Table: "A b", Row: list(num(1)), Lo: list(num(2)), Hi: list(num(3)), Max: 4}, "\x01\x03A b" + "\x03\x01\x02\x02" + "\x03\x01\x02\x04" + "\x03\x01\x02\x06" + "\x04"},
	{api.Op{Kind: api.OpAbort, Table: "A b", Row: list(num(1)), Lo: list(num(2)), Hi: list(num(3)), Max: 4}, "\x09\x03A b" + "\x03\x01\x02\x02" + "\x03\x01\x02\x04" + "\x03\x01\x02\x06" + "\x04"},
	{api.Op{Kind: api.OpChange, Table: "A b", Row: list(num(1)), Lo: list(num(2)), Hi: list(num(3)), Max: 4, Change: dropping("t", "v")},
		"\x06\x03A b" + "\x03\x01\x02\x02" + "\x03\x01\x02\x04" + "\x03\x01\x02\x06" + "\x04" + "\x03\x01t\x00\x00\x00\x01v\x00\x00"},

	// The edges: the longest Table, and rows whose length takes two bytes.
	{sample.Getting(longest), "\x01\x10" + longest + none + none + none + "\x00"},
	{sample.Inserting("t", wide()...), "\x03\x01t" + "\x91\x04\x08" + strings.Repeat("\x05\x40"+strings.Repeat("w", 64), 8) + none + none + "\x00"},
	{sample.Scanning("t", wide()[:2], wide()[:1], 1), "\x02\x01t" + none + "\x85\x01\x02" + strings.Repeat("\x05\x40"+strings.Repeat("w", 64), 2) + "\x43\x01\x05\x40" + strings.Repeat("w", 64) + "\x01"},
	{sample.Inserting("t", times(null(), 8)...), "\x03\x01t" + "\x09\x08\x00\x00\x00\x00\x00\x00\x00\x00" + none + none + "\x00"},
}

func TestBytesOfOps(t *testing.T) {
	for _, want := range bytesOfOps {
		wantPut(t, want.o, want.s)
		for _, behind := range behinds(want.s) {
			wantRead(t, want.s+behind, want.o, behind)
		}
	}
}

// What is written is read as what it was, whatever stands behind it; and its beginnings are short.
func TestOpsThatMayBe(t *testing.T) {
	for _, o := range someOps() {
		s := rawOp(o)
		wantPut(t, o, s)
		for _, behind := range behinds(s) {
			wantRead(t, s+behind, o, behind)
		}
		for size := range len(s) {
			wantNotRead(t, s[:size], api.ErrShort)
		}
	}
}

// Change is written of OpChange alone, and not asked for of others: what is read of them has none.
func TestChangeOfOtherKinds(t *testing.T) {
	changes := append(kindsOfChanges(), api.Change{}, api.Change{Kind: 7}, creating(ints(0, 9)), adding(tooLong, open("", 9)), typed(merging("a", "b", "c"), -1))
	for kind := api.OpGet; kind <= api.OpAbort; kind++ {
		for _, c := range changes {
			if kind == api.OpChange {
				continue
			}
			o := api.Op{Kind: kind, Table: "t", Row: mixed(), Max: 9}
			s := rawOp(o)
			junk := o
			junk.Change = c
			wantPut(t, junk, s)
			wantRead(t, s, o, "")
			wantRead(t, s+rawChange(kindsOfChanges()[0]), o, rawChange(kindsOfChanges()[0]))
		}
	}
}

// Many in a row are read one by one.
func TestReadOfMany(t *testing.T) {
	var s string
	for _, o := range someOps() {
		s += rawOp(o)
	}
	rest := s
	for i, o := range someOps() {
		_, behind, err := askRead(t, rest)
		if err != api.OK || rest != rawOp(o)+behind {
			t.Fatalf("of many the one at %d: %d, %q behind", i, err, behind)
		}
		rest = behind
	}
	wantNotRead(t, rest, api.ErrShort)
	s, rest = "", ""
	for _, c := range someChanges() {
		s += rawChange(c)
	}
	rest = s
	for i, c := range someChanges() {
		_, behind, err := askReadChange(t, rest)
		if err != api.OK || rest != rawChange(c)+behind {
			t.Fatalf("of many the change at %d: %d, %q behind", i, err, behind)
		}
		rest = behind
	}
	wantNotReadChange(t, rest, api.ErrShort)
}
