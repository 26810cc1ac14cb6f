package ops_test

import (
	"encoding/binary"
	"slices"
	"strings"
	"testing"

	"transom/api"
	"transom/keycode"
	"transom/sample"
)

// The words of package sample, in short.
const (
	longest = sample.Longest
	tooLong = sample.TooLong
)

var (
	col     = sample.Col
	open    = sample.Open
	with    = sample.With
	table   = sample.Table
	plain   = sample.Plain
	ints    = sample.Ints
	each    = sample.Each
	some    = sample.Some
	refused = sample.Refused

	null = sample.Null
	num  = sample.Int
	said = sample.Text

	creating  = sample.Creating
	adding    = sample.Adding
	dropping  = sample.Dropping
	retyping  = sample.Retyping
	splitting = sample.Splitting
	merging   = sample.Merging
	changing  = sample.Changing
)

// list tells its arguments as a list.
func list[T any](l ...T) []T {
	return l
}

// times tells a list of so many items, which are all the same.
func times[T any](item T, count int) []T {
	return slices.Repeat(list(item), count)
}

// uint tells n's bytes, in the library's own words.
func uint(n int) string {
	return string(binary.AppendUvarint(nil, uint64(n)))
}

// packed tells s with its length ahead.
func packed(s string) string {
	return uint(len(s)) + s
}

// rawRow tells the bytes that promise 6.1 says of l, whether it may be or not.
func rawRow(l []api.Value) string {
	s := uint(len(l))
	for _, v := range l {
		s += string([]byte{byte(v.Kind)})
		switch v.Kind {
		case api.KindBool:
			s += string([]byte{byte(v.N)})
		case api.KindInt:
			s += string(binary.AppendVarint(nil, int64(v.N)))
		case api.KindReal:
			s += string(binary.BigEndian.AppendUint64(nil, v.Bits))
		case api.KindBytes, api.KindText:
			s += packed(v.S)
		}
	}
	return s
}

// rawTable tells the bytes that promise 9.3 says of t, whether it may be or not; its numbers must not be below 0, and its Defaults must be values that may be.
func rawTable(t api.Table) string {
	s := packed(t.Name) + uint(t.Keys) + uint(len(t.Cols))
	for _, c := range t.Cols {
		flag := "\x00"
		if c.Null {
			flag = "\x01"
		}
		def, _ := keycode.Put(c.Default)
		s += packed(c.Name) + uint(c.Kind) + flag + def
	}
	return s
}

// tableAround tells the table that promise 14.1 says stands around the column of a ChangeAdd.
func tableAround(c api.Col) api.Table {
	if c.Name == "k" {
		return table("x", 1, col("j", api.KindInt), c)
	}
	return table("x", 1, col("k", api.KindInt), c)
}

// changePieces tells the bytes that promise 14.1 says of c, whether it may be or not, piece by piece: the Kind, five texts, the Type, the number of Names, each of them, and the table, if there is one.
func changePieces(c api.Change) []string {
	l := list(uint(c.Kind), packed(c.Table), packed(c.Other), packed(c.To), packed(c.Also), packed(c.Name), uint(c.Type), uint(len(c.Names)))
	for _, name := range c.Names {
		l = append(l, packed(name))
	}
	switch c.Kind {
	case api.ChangeCreate:
		l = append(l, rawTable(c.Def))
	case api.ChangeAdd:
		l = append(l, rawTable(tableAround(c.Col)))
	}
	return l
}

// opPieces tells the bytes that promise 14.2 says of o, whether it may be or not, piece by piece: the Kind, the Table, three rows, Max, and the pieces of an OpChange's Change.
func opPieces(o api.Op) []string {
	l := list(uint(o.Kind), packed(o.Table), packed(rawRow(o.Row)), packed(rawRow(o.Lo)), packed(rawRow(o.Hi)), uint(o.Max))
	if o.Kind == api.OpChange {
		l = append(l, changePieces(o.Change)...)
	}
	return l
}

// rawChange tells the bytes that promise 14.1 says of c, whether it may be or not.
func rawChange(c api.Change) string {
	return strings.Join(changePieces(c), "")
}

// rawOp tells the bytes that promise 14.2 says of o, whether it may be or not.
func rawOp(o api.Op) string {
	return strings.Join(opPieces(o), "")
}

// wide tells a row whose bytes are as many as they may be, so that their number takes two bytes.
func wide() []api.Value {
	return times(said(strings.Repeat("w", api.MaxText)), api.MaxCols)
}

// mixed tells a row of a value of each kind.
func mixed() []api.Value {
	return list(null(), sample.Bool(1), num(-300), sample.Real(sample.One), sample.Bytes("\x00\xff"), said("\xc3\xa4"))
}

// someRows tells rows that may be: without values, with each value of each kind, and as long as may be.
func someRows() [][]api.Value {
	l := list(nil, []api.Value{}, wide(), wide()[:1], wide()[:2], mixed(), times(null(), api.MaxCols), list(num(63), num(64), num(-64), num(-65)))
	for kind := api.KindNull; kind <= api.KindText; kind++ {
		for _, v := range some(kind) {
			l = append(l, list(v), list(num(1), v))
		}
	}
	return l
}

// someTables tells tables that may be.
func someTables() []api.Table {
	l := list(plain(), each(), table("a", 1, with(col("a", api.KindBool), sample.Bool(1))), table(longest, 1, col(longest, api.KindText)), ints(1, 1), ints(1, 8), ints(3, 8))
	for _, c := range someCols() {
		l = append(l, table("t", 1, col("first", api.KindText), c))
	}
	return l
}

// someCols tells columns that may be.
func someCols() []api.Col {
	l := list(open("j", api.KindInt), open("x", api.KindText), open(longest, api.KindReal))
	for kind := api.KindBool; kind <= api.KindText; kind++ {
		for _, v := range append(some(kind), null()) {
			l = append(l, with(col("k", kind), v), with(open("v", kind), v))
		}
	}
	return l
}

// someNames tells lists of names as a change may have: they need not be names.
func someNames() [][]string {
	return list(nil, []string{}, list("v"), list(""), list(longest), list("v", "w"), list("v", "v", ""), list("A b", "\x00", "\xff"),
		times("n", api.MaxCols), times(longest, api.MaxCols), times("", api.MaxCols))
}

// kindsOfChanges tells a change of each Kind, with no fields but those it has.
func kindsOfChanges() []api.Change {
	return list(creating(plain()), adding("t", open("v", api.KindText)), dropping("t", "v"), retyping("t", "v", api.KindInt), splitting("t", "a", "b", "v", "w"), merging("a", "b", "c"))
}

// someChanges tells changes that may be written: of each Kind, with fields that it has and that it does not have, which are written of all.
func someChanges() []api.Change {
	l := kindsOfChanges()
	for _, t := range someTables() {
		l = append(l, creating(t))
	}
	for _, c := range someCols() {
		l = append(l, adding("t", c))
	}
	for _, c := range kindsOfChanges() {
		l = append(l, api.Change{Kind: c.Kind, Col: c.Col, Def: c.Def})
		for _, s := range list("", "t", longest, "\xff\x00 A") {
			c.Table, c.Other, c.To, c.Also, c.Name = s, s, s, s, s
			l = append(l, c)
		}
		c.Table, c.Other, c.To, c.Also, c.Name = "one", "two", "three", "four", "five"
		for _, names := range someNames() {
			c.Names = names
			l = append(l, c)
		}
		for _, kind := range list(0, 1, 5, 6, 99, 100) {
			c.Type = kind
			l = append(l, c)
		}
	}
	return l
}

// someOps tells ops that may be written: of each Kind, with fields that it has and that it does not have, which are written of all but for Change.
func someOps() []api.Op {
	var l []api.Op
	for kind := api.OpGet; kind <= api.OpAbort; kind++ {
		o := api.Op{Kind: kind}
		if kind == api.OpChange {
			o.Change = merging("a", "b", "c")
		}
		l = append(l, o)
		for _, row := range someRows() {
			o.Table, o.Row, o.Lo, o.Hi, o.Max = "t", row, nil, nil, 0
			l = append(l, o)
			o.Table, o.Row, o.Lo, o.Hi, o.Max = longest, nil, row, nil, 1
			l = append(l, o)
			o.Table, o.Row, o.Lo, o.Hi, o.Max = "\xff\x00 A", nil, nil, row, api.MaxScan
			l = append(l, o)
			o.Table, o.Row, o.Lo, o.Hi, o.Max = "", list(num(1)), row, mixed(), 63
			l = append(l, o)
		}
		o.Row, o.Lo, o.Hi = wide(), wide(), wide()
		l = append(l, o)
	}
	for _, c := range someChanges() {
		l = append(l, changing(c), api.Op{Kind: api.OpChange, Table: "t", Row: mixed(), Lo: list(num(1)), Max: 7, Change: c})
	}
	return l
}

// behinds tells what may stand behind bytes that are read; it may look like more of the same.
func behinds(s string) []string {
	return list("", "z", "\x00", "\x01", "\x80", "\xff\xff", s, strings.Repeat("\x80", 40))
}

// The chapter's example, and the same of all that need no more than a Kind.
func TestExample(t *testing.T) {
	wantPut(t, api.Op{Kind: api.OpBegin}, "\x07\x00\x01\x00\x01\x00\x01\x00\x00")
	wantPut(t, api.Op{Kind: api.OpCommit}, "\x08\x00\x01\x00\x01\x00\x01\x00\x00")
	wantPut(t, api.Op{Kind: api.OpAbort}, "\x09\x00\x01\x00\x01\x00\x01\x00\x00")
	wantPut(t, api.Op{Kind: api.OpGet}, "\x01\x00\x01\x00\x01\x00\x01\x00\x00")
}

// What is asked twice is told twice: nothing is kept.
func TestAgain(t *testing.T) {
	o := changing(creating(each()))
	for range 3 {
		wantPut(t, o, rawOp(o))
		wantNoPut(t, api.Op{}, api.ErrArg)
		wantPutChange(t, o.Change, rawChange(o.Change))
		wantNoPutChange(t, api.Change{}, api.ErrArg)
		wantNotRead(t, "", api.ErrShort)
		wantNotReadChange(t, "", api.ErrShort)
		wantSame(t, o, o, true)
		wantReplies(t, api.Reply{}, api.Reply{}, true)
	}
}
