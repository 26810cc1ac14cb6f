package ops_test

import (
	"slices"
	"strings"
	"testing"

	"transom/api"
	"transom/sample"
)

// filled tells c with a text in each field that is one.
func filled(c api.Change) api.Change {
	c.Table, c.Other, c.To, c.Also, c.Name = "a", "bb", "ccc", "dddd", "eeeee"
	return c
}

// named tells c with those Names.
func named(c api.Change, names ...string) api.Change {
	c.Names = names
	return c
}

// typed tells c with that Type.
func typed(c api.Change, kind int) api.Change {
	c.Type = kind
	return c
}

// bytesOfChanges holds changes, and the bytes that promise 14.1 says of them.
var bytesOfChanges = []struct {
	c api.Change
	s string
}{
	{creating(plain()), "\x01\x00\x00\x00\x00\x00\x00\x00" + "\x01t\x01\x02\x01k\x02\x00\x00\x01v\x05\x01\x00"},
	{creating(ints(1, 1)), "\x01\x00\x00\x00\x00\x00\x00\x00" + "\x01t\x01\x01\x02c0\x02\x00\x00"},
	{creating(ints(2, 3)), "\x01\x00\x00\x00\x00\x00\x00\x00" + "\x01t\x02\x03\x02c0\x02\x00\x00\x02c1\x02\x00\x00\x02c2\x02\x00\x00"},
	{adding("t", open("v", api.KindText)), "\x02\x01t\x00\x00\x00\x00\x00\x00" + "\x01x\x01\x02\x01k\x02\x00\x00\x01v\x05\x01\x00"},
	{adding("t", open("k", api.KindText)), "\x02\x01t\x00\x00\x00\x00\x00\x00" + "\x01x\x01\x02\x01j\x02\x00\x00\x01k\x05\x01\x00"},
	{adding("t", open("j", api.KindText)), "\x02\x01t\x00\x00\x00\x00\x00\x00" + "\x01x\x01\x02\x01k\x02\x00\x00\x01j\x05\x01\x00"},
	{adding("t", open("x", api.KindInt)), "\x02\x01t\x00\x00\x00\x00\x00\x00" + "\x01x\x01\x02\x01k\x02\x00\x00\x01x\x02\x01\x00"},
	{adding("", with(col("kk", api.KindBool), sample.Bool(1))), "\x02\x00\x00\x00\x00\x00\x00\x00" + "\x01x\x01\x02\x01k\x02\x00\x00\x02kk\x01\x00\x01\x01"},
	{dropping("t", "v"), "\x03\x01t\x00\x00\x00\x01v\x00\x00"},
	{retyping("t", "v", api.KindInt), "\x04\x01t\x00\x00\x00\x01v\x02\x00"},
	{splitting("t", "a", "b"), "\x05\x01t\x00\x01a\x01b\x00\x00\x00"},
	{splitting("t", "a", "b", "v"), "\x05\x01t\x00\x01a\x01b\x00\x00\x01\x01v"},
	{splitting("t", "a", "b", "w", "v"), "\x05\x01t\x00\x01a\x01b\x00\x00\x02\x01w\x01v"},
	{merging("a", "b", "c"), "\x06\x01a\x01b\x01c\x00\x00\x00\x00"},

	// All fields are written of each Kind, and no text need be a name.
	{named(typed(filled(creating(ints(1, 1))), 3), "f"), "\x01\x01a\x02bb\x03ccc\x04dddd\x05eeeee\x03\x01\x01f" + "\x01t\x01\x01\x02c0\x02\x00\x00"},
	{named(typed(filled(adding("", open("v", api.KindInt))), 3), "f"), "\x02\x01a\x02bb\x03ccc\x04dddd\x05eeeee\x03\x01\x01f" + "\x01x\x01\x02\x01k\x02\x00\x00\x01v\x02\x01\x00"},
	{named(typed(filled(dropping("", "")), 0), "f", ""), "\x03\x01a\x02bb\x03ccc\x04dddd\x05eeeee\x00\x02\x01f\x00"},
	{named(typed(filled(retyping("", "", 0)), 100), "f"), "\x04\x01a\x02bb\x03ccc\x04dddd\x05eeeee\x64\x01\x01f"},
	{named(typed(filled(splitting("", "", "")), 99), "f", "f"), "\x05\x01a\x02bb\x03ccc\x04dddd\x05eeeee\x63\x02\x01f\x01f"},
	{named(typed(filled(merging("", "", "")), 6), "1 A"), "\x06\x01a\x02bb\x03ccc\x04dddd\x05eeeee\x06\x01\x031 A"},
	{api.Change{Kind: api.ChangeDrop}, "\x03\x00\x00\x00\x00\x00\x00\x00"},

	// The edges.
	{merging(longest, longest, longest), "\x06\x10" + longest + "\x10" + longest + "\x10" + longest + "\x00\x00\x00\x00"},
	{dropping(longest, longest), "\x03\x10" + longest + "\x00\x00\x00\x10" + longest + "\x00\x00"},
	{splitting("t", "a", longest, times(longest, 8)...), "\x05\x01t\x00\x01a\x10" + longest + "\x00\x00\x08" + strings.Repeat("\x10"+longest, 8)},
	{named(merging("", "", ""), times("", 8)...), "\x06\x00\x00\x00\x00\x00\x00\x08\x00\x00\x00\x00\x00\x00\x00\x00"},
	{adding("t", open(longest, api.KindReal)), "\x02\x01t\x00\x00\x00\x00\x00\x00" + "\x01x\x01\x02\x01k\x02\x00\x00\x10" + longest + "\x03\x01\x00"},
}

func TestBytesOfChanges(t *testing.T) {
	for _, want := range bytesOfChanges {
		wantPutChange(t, want.c, want.s)
		for _, behind := range behinds(want.s) {
			wantReadChange(t, want.s+behind, want.c, behind)
		}
	}
}

// What is written is read as what it was, whatever stands behind it; and its beginnings are short.
func TestChangesThatMayBe(t *testing.T) {
	for _, c := range someChanges() {
		s := rawChange(c)
		wantPutChange(t, c, s)
		for _, behind := range behinds(s) {
			wantReadChange(t, s+behind, c, behind)
		}
		for size := range len(s) {
			wantNotReadChange(t, s[:size], api.ErrShort)
		}
	}
}

// Def and Col are not written of other Kinds, whatever they are, and not asked for.
func TestDefAndColOfOtherKinds(t *testing.T) {
	tables, cols := list(plain(), each()), someCols()[:5]
	for _, no := range sample.RefusedTables() {
		tables = append(tables, no.Table)
	}
	for _, no := range noCols() {
		cols = append(cols, no.c)
	}
	for _, c := range kindsOfChanges() {
		s := rawChange(c)
		for _, def := range tables {
			for _, of := range cols {
				junk := c
				if c.Kind != api.ChangeCreate {
					junk.Def = def
				}
				if c.Kind != api.ChangeAdd {
					junk.Col = of
				}
				wantPutChange(t, junk, s)
				wantReadChange(t, s+"z", c, "z")
			}
		}
	}
}

func TestKindsOfChanges(t *testing.T) {
	for kind := -300; kind <= 600; kind++ {
		c := api.Change{Kind: kind, Col: open("v", api.KindInt), Def: plain()}
		if kind >= 1 && kind <= 6 {
			wantPutChange(t, c, rawChange(c))
		} else {
			wantNoPutChange(t, c, api.ErrArg)
		}
	}
	for _, kind := range farOff {
		wantNoPutChange(t, api.Change{Kind: kind, Col: open("v", api.KindInt), Def: plain()}, api.ErrArg)
	}
}

func TestTypes(t *testing.T) {
	for _, c := range kindsOfChanges() {
		for kind := -300; kind <= 600; kind++ {
			c.Type = kind
			if kind >= 0 && kind <= 100 {
				s := rawChange(c)
				wantPutChange(t, c, s)
				wantReadChange(t, s, c, "")
			} else {
				wantNoPutChange(t, c, api.ErrArg)
			}
		}
		for _, kind := range farOff {
			c.Type = kind
			wantNoPutChange(t, c, api.ErrArg)
		}
	}
}

// How many Names there are, and how long each is, at each place.
func TestNames(t *testing.T) {
	for _, c := range kindsOfChanges() {
		for count := range 20 {
			c.Names = times("n", count)
			if count > 8 {
				wantNoPutChange(t, c, api.ErrArg)
				continue
			}
			s := rawChange(c)
			wantPutChange(t, c, s)
			wantReadChange(t, s, c, "")
			for at := range count {
				for size := range 40 {
					c.Names = slices.Clone(c.Names)
					c.Names[at] = strings.Repeat("n", size)
					if size > 16 {
						wantNoPutChange(t, c, api.ErrName)
					} else {
						wantPutChange(t, c, rawChange(c))
					}
				}
				c.Names[at] = "n"
			}
		}
		for _, count := range list(127, 128, 256, 257, 264, 1000) {
			c.Names = times("", count)
			wantNoPutChange(t, c, api.ErrArg)
		}
	}
}

// Each text alone, of each length.
func TestTexts(t *testing.T) {
	for _, c := range kindsOfChanges() {
		for size := range 40 {
			for _, long := range longTexts(c, strings.Repeat("t", size)) {
				if size > 16 {
					wantNoPutChange(t, long, api.ErrName)
					continue
				}
				s := rawChange(long)
				wantPutChange(t, long, s)
				wantReadChange(t, s, long, "")
			}
		}
		for _, long := range longTexts(c, strings.Repeat("\xff", 300)) {
			wantNoPutChange(t, long, api.ErrName)
		}
	}
}

// longTexts tells c with s as one of its texts, each in turn.
func longTexts(c api.Change, s string) []api.Change {
	l := times(c, 5)
	l[0].Table, l[1].Other, l[2].To, l[3].Also, l[4].Name = s, s, s, s, s
	return l
}
