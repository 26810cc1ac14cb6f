package sheet_test

import (
	"slices"
	"testing"

	"transom/api"
	"transom/sample"
)

// three tells a sheet of three rows of plain.
func three() api.Sheet {
	return sheetOf(plain(), rowsOf(1, 2, 3)...)
}

// withKey tells s with another Key at that line.
func withKey(s api.Sheet, at int, key string) api.Sheet {
	s.Lines = put(s.Lines, at, api.Line{Key: key, Row: s.Lines[at].Row})
	return s
}

// withRow tells s with another row at that line, whose Key stays.
func withRow(s api.Sheet, at int, row []api.Value) api.Sheet {
	s.Lines = put(s.Lines, at, api.Line{Key: s.Lines[at].Key, Row: row})
	return s
}

// withLine tells s with another line at that place: a row that fits, under its key.
func withLine(s api.Sheet, at int, row []api.Value) api.Sheet {
	s.Lines = put(s.Lines, at, api.Line{Key: keyOf(s.Table, row), Row: row})
	return s
}

// full tells a row that fits each(), of that number.
func full(n int) []api.Value {
	return list(sample.Bool(1), num(n), sample.Real(sample.Inf), sample.Bytes("\x00"), text("x"))
}

// wide tells a row of so many numbers.
func wide(count int) []api.Value {
	l := make([]api.Value, count)
	for i := range l {
		l[i] = num(50 - i)
	}
	return l
}

func TestCheckOfWhatMayBe(t *testing.T) {
	for keys, count := range sizes {
		of := ints(keys, count)
		wantCheck(t, api.Sheet{Table: of}, api.OK)
		wantCheck(t, api.Sheet{Table: of, Lines: []api.Line{}}, api.OK)
		rows := list(wide(count))
		for i := range 5 {
			wantCheck(t, sheetOf(of, rows...), api.OK)
			next := slices.Clone(rows[i])
			next[keys-1].N++
			rows = append(rows, next)
		}
	}
	wantCheck(t, three(), api.OK)
	wantCheck(t, sheetOf(plain(), list(num(api.MinInt), null()), list(num(-1), text("x")), list(num(0), null()), list(num(api.MaxInt), null())), api.OK)
	wantCheck(t, sheetOf(each(), full(-3), full(-2), full(9)), api.OK)
	// Only the key's values need to differ.
	wantCheck(t, sheetOf(plain(), list(num(1), text("x")), list(num(2), text("x"))), api.OK)
	// One key may begin another one: its bytes don't.
	of := table("t", 1, col("k", api.KindText))
	wantCheck(t, sheetOf(of, list(text("")), list(text("\x00")), list(text("a")), list(text("a\x00")), list(text("aa"))), api.OK)
}

func TestCheckOfTablesThatMayNotBe(t *testing.T) {
	for _, no := range refused() {
		wantCheck(t, api.Sheet{Table: no.Table}, no.Err)
		for _, s := range list(three(), keyed("a"), keyed("b", "a"), keyed("", "")) {
			s.Table = no.Table
			wantCheck(t, s, no.Err)
		}
	}
}

// noRows tells rows that do not fit plain, and their errors.
func noRows() map[api.Errno][][]api.Value {
	l := map[api.Errno][][]api.Value{api.ErrType: {
		nil, list(num(1)), list(num(1), null(), null()), list(null(), null()), list(text("1"), null()),
		list(num(1), num(1)), list(num(1), sample.Bytes("x")), list(sample.Bool(1), text("x")), list(null(), num(1)),
	}}
	for _, no := range sample.Refused() {
		l[no.Err] = append(l[no.Err], list(no.Value, null()), list(num(1), no.Value))
	}
	return l
}

func TestCheckOfRowsThatDoNotFit(t *testing.T) {
	for err, rows := range noRows() {
		for _, row := range rows {
			wantCheck(t, withRow(sheetOf(plain(), rowsOf(1)...), 0, row), err)
			for at := range 3 {
				wantCheck(t, withRow(three(), at, row), err)
				// Told ahead of what is wrong with the Key: that it is no key's, or not above.
				for _, key := range list("", three().Lines[0].Key, "\xff") {
					wantCheck(t, withKey(withRow(three(), at, row), at, key), err)
				}
			}
		}
	}
}

func TestCheckOfKeysThatAreNotTheRows(t *testing.T) {
	one := sheetOf(plain(), rowsOf(1)...).Lines[0].Key
	whole := sheetOf(table("t", 2, col("k", api.KindInt), col("v", api.KindText)), rowsOf(1)...).Lines[0].Key
	for _, key := range list("", "\x00", one[:len(one)-1], one+"\x00", one+"\xff", one[1:], whole, three().Lines[1].Key, "1", "\xff") {
		wantCheck(t, withKey(sheetOf(plain(), rowsOf(1)...), 0, key), api.ErrForm)
	}
	for at := range 3 {
		own := three().Lines[at].Key
		for _, key := range list("", own[:len(own)-1], own+"\x00", "\x01", "\x03", "\xff\xff") {
			wantCheck(t, withKey(three(), at, key), api.ErrForm)
		}
		// Another line's Key, alike, less or more: it is not the row's, and that is told first.
		for other := range 3 {
			if other != at {
				wantCheck(t, withKey(three(), at, three().Lines[other].Key), api.ErrForm)
			}
		}
		wantCheck(t, withRow(three(), at, rowsOf(4)[0]), api.ErrForm)
		wantCheck(t, withRow(three(), at, list(three().Lines[at].Row[0], null())), api.OK)
	}
	// The key's values are those of the first columns, all of them, and no others.
	of := tableOfInts(2)
	s := sheetOf(of, list(num(1), num(2), text("3")))
	for _, row := range list(list(num(2), num(1), text("3")), list(num(1), num(3), text("3")), list(num(0), num(2), text("3"))) {
		wantCheck(t, withRow(s, 0, row), api.ErrForm)
	}
	wantCheck(t, withRow(s, 0, list(num(1), num(2), text("4"))), api.OK)
}

func TestCheckOfKeysThatDoNotRise(t *testing.T) {
	for at := 1; at < 3; at++ {
		for _, n := range list(api.MinInt, -7, 0, at-1, at) {
			wantCheck(t, withLine(three(), at, list(num(n), null())), api.ErrDup)
		}
	}
	for _, n := range list(2, 3, 4, 26, api.MaxInt) {
		wantCheck(t, withLine(three(), 0, list(num(n), null())), api.ErrDup)
	}
	for _, n := range list(3, 4, 26, api.MaxInt) {
		wantCheck(t, withLine(three(), 1, list(num(n), null())), api.ErrDup)
		wantCheck(t, withLine(three(), 2, list(num(n), null())), api.OK)
	}
	wantCheck(t, withLine(three(), 0, list(num(0), null())), api.OK)
	wantCheck(t, sheetOf(plain(), rowsOf(3, 2, 1)...), api.ErrDup)
	wantCheck(t, sheetOf(plain(), rowsOf(1, 1)...), api.ErrDup)
	wantCheck(t, sheetOf(plain(), rowsOf(2, 1)...), api.ErrDup)
	wantCheck(t, sheetOf(plain(), list(num(1), null()), list(num(1), text("x"))), api.ErrDup)
	wantCheck(t, sheetOf(plain(), rowsOf(1, 2, 3, 4, 5, 6, 7, 8, 8)...), api.ErrDup)
	wantCheck(t, sheetOf(plain(), rowsOf(1, 2, 3, 4, 5, 6, 7, 9, 8)...), api.ErrDup)
	// Above the line right ahead is what is asked, not above the first.
	wantCheck(t, sheetOf(plain(), rowsOf(1, 5, 3)...), api.ErrDup)
	of := tableOfInts(2)
	wantCheck(t, sheetOf(of, list(num(1), num(2), null()), list(num(1), num(2), null())), api.ErrDup)
	wantCheck(t, sheetOf(of, list(num(1), num(2), null()), list(num(1), num(1), null())), api.ErrDup)
	wantCheck(t, sheetOf(of, list(num(2), num(1), null()), list(num(1), num(2), null())), api.ErrDup)
	wantCheck(t, sheetOf(of, list(num(1), num(2), null()), list(num(2), num(1), null())), api.OK)
}

// Of two lines with faults the first one's is told, whatever it is.
func TestCheckOfTwoFaults(t *testing.T) {
	spoilt := []struct {
		spoil func(s api.Sheet, at int) api.Sheet
		err   api.Errno
	}{
		{func(s api.Sheet, at int) api.Sheet { return withRow(s, at, list(num(1))) }, api.ErrType},
		{func(s api.Sheet, at int) api.Sheet { return withRow(s, at, list(sample.Bool(2), null())) }, api.ErrRange},
		{func(s api.Sheet, at int) api.Sheet { return withRow(s, at, list(num(1), text("\xff"))) }, api.ErrText},
		{func(s api.Sheet, at int) api.Sheet { return withKey(s, at, "\xff") }, api.ErrForm},
		{func(s api.Sheet, at int) api.Sheet { return withKey(s, at, "") }, api.ErrForm},
		{func(s api.Sheet, at int) api.Sheet { return withLine(s, at, list(num(-at), null())) }, api.ErrDup},
	}
	s := sheetOf(plain(), rowsOf(1, 2, 3, 4, 5)...)
	for at := 1; at < 5; at++ {
		for _, first := range spoilt {
			wantCheck(t, first.spoil(s, at), first.err)
			for behind := at + 1; behind < 5; behind++ {
				for _, other := range spoilt {
					wantCheck(t, other.spoil(first.spoil(s, at), behind), first.err)
				}
			}
		}
	}
}
