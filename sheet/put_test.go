package sheet_test

import (
	"slices"
	"testing"

	"transom/api"
	"transom/sample"
)

// Keys that begin one another, that are empty, and that stand at the borders of what a byte may be.
func edgyKeys() []string {
	return list("", "\x00", "\x00\x00", "a", "a\x00", "aa", "ab", "b", "\xff", "\xff\xff")
}

// probes tells edgyKeys, and keys between them.
func probes() []string {
	return append(edgyKeys(), "\x00\x01", "\x01", "`", "a\x00\x00", "a\x01", "a\xff", "abc", "b\x00", "c", "\xfe", "\xff\xff\xff")
}

// placeOf tells what promise 12.1 says of Find: line by line.
func placeOf(s api.Sheet, key string) (int, bool) {
	for i, line := range s.Lines {
		if line.Key >= key {
			return i, line.Key == key
		}
	}
	return len(s.Lines), false
}

func TestFind(t *testing.T) {
	s := keyed("b", "d", "f")
	for _, want := range []struct {
		key string
		at  int
		is  bool
	}{
		{"", 0, false}, {"a", 0, false}, {"b", 0, true}, {"b\x00", 1, false}, {"c", 1, false}, {"d", 1, true},
		{"dd", 2, false}, {"e", 2, false}, {"f", 2, true}, {"f\x00", 3, false}, {"g", 3, false}, {"\xff", 3, false},
	} {
		wantPlace(t, s, want.key, want.at, want.is)
	}
	wantPlace(t, keyed(), "", 0, false)
	wantPlace(t, keyed(), "a", 0, false)
	wantPlace(t, keyed(""), "", 0, true)
	wantPlace(t, keyed(""), "\x00", 1, false)
	wantPlace(t, keyed("", "a"), "", 0, true)
	// Neither the table nor the rows play a part.
	s.Table = api.Table{}
	wantPlace(t, s, "d", 1, true)
}

func TestFindAmongEachChoice(t *testing.T) {
	for _, keys := range choices(edgyKeys()) {
		s := keyed(keys...)
		for _, key := range probes() {
			at, is := placeOf(s, key)
			wantPlace(t, s, key, at, is)
		}
	}
}

func TestFindAmongMany(t *testing.T) {
	var keys []string
	for i := range 300 {
		keys = append(keys, string([]byte{byte(i / 100), byte(2 * (i % 100))}))
	}
	s := keyed(keys...)
	for i, key := range keys {
		wantPlace(t, s, key, i, true)
		wantPlace(t, s, key+"\x00", i+1, false)
		wantPlace(t, s, key+"\xff", i+1, false)
	}
}

func TestPutOfNewRows(t *testing.T) {
	wantPut(t, api.Sheet{Table: plain()}, rowsOf(1)[0], sheetOf(plain(), rowsOf(1)...), true)
	wantPut(t, api.Sheet{Table: plain(), Lines: []api.Line{}}, rowsOf(1)[0], sheetOf(plain(), rowsOf(1)...), true)
	wantPut(t, sheetOf(plain(), rowsOf(2)...), rowsOf(1)[0], sheetOf(plain(), rowsOf(1, 2)...), true)
	wantPut(t, sheetOf(plain(), rowsOf(2)...), rowsOf(3)[0], sheetOf(plain(), rowsOf(2, 3)...), true)
	s := sheetOf(plain(), rowsOf(2, 4, 6)...)
	wantPut(t, s, rowsOf(1)[0], sheetOf(plain(), rowsOf(1, 2, 4, 6)...), true)
	wantPut(t, s, rowsOf(3)[0], sheetOf(plain(), rowsOf(2, 3, 4, 6)...), true)
	wantPut(t, s, rowsOf(5)[0], sheetOf(plain(), rowsOf(2, 4, 5, 6)...), true)
	wantPut(t, s, rowsOf(7)[0], sheetOf(plain(), rowsOf(2, 4, 6, 7)...), true)
	wantPut(t, s, list(num(-1), null()), sheetOf(plain(), append(list(list(num(-1), null())), rowsOf(2, 4, 6)...)...), true)
	wantPut(t, sheetOf(each(), full(-3), full(2)), full(0), sheetOf(each(), full(-3), full(0), full(2)), true)
}

func TestPutOfRowsThatAreThere(t *testing.T) {
	for count := 1; count <= 5; count++ {
		s := sheetOf(plain(), rowsOf(1, 2, 3, 4, 5)[:count]...)
		for at := range count {
			for _, v := range list(null(), text(""), text("new")) {
				row := list(num(at+1), v)
				wantPut(t, s, row, withLine(s, at, row), false)
			}
			wantPut(t, s, s.Lines[at].Row, s, false)
		}
	}
}

// The key is that of the table's first columns, as many as Keys says.
func TestPutByEachKey(t *testing.T) {
	for keys, count := range sizes {
		of := ints(keys, count)
		base := wide(count)
		s := sheetOf(of, base)
		for place := range count {
			less, more := slices.Clone(base), slices.Clone(base)
			less[place].N--
			more[place].N++
			if place < keys {
				wantPut(t, s, less, sheetOf(of, less, base), true)
				wantPut(t, s, more, sheetOf(of, base, more), true)
			} else {
				wantPut(t, s, less, sheetOf(of, less), false)
				wantPut(t, s, more, sheetOf(of, more), false)
			}
		}
	}
}

// Each choice of texts that begin one another, and each text put into it and taken from it.
func TestPutAndDeleteAmongEachChoice(t *testing.T) {
	of := table("t", 1, col("k", api.KindText), open("v", api.KindInt))
	texts := list("", "\x00", "\x00\x00", "\x01", "a", "a\x00", "aa", "b")
	for _, l := range choices(texts) {
		s := api.Sheet{Table: of}
		for i, k := range l {
			r := list(text(k), num(i))
			s.Lines = append(s.Lines, api.Line{Key: keyOf(of, r), Row: r})
		}
		wantCheck(t, s, api.OK)
		for _, k := range texts {
			r := list(text(k), null())
			key := keyOf(of, r)
			at, is := placeOf(s, key)
			if is {
				wantPut(t, s, r, withLine(s, at, r), false)
				wantDelete(t, s, key, api.Sheet{Table: of, Lines: without(s.Lines, at)}, true)
				continue
			}
			more := api.Sheet{Table: of, Lines: slices.Insert(slices.Clone(s.Lines), at, api.Line{Key: key, Row: r})}
			wantPut(t, s, r, more, true)
			wantDelete(t, s, key, s, false)
			wantDelete(t, more, key, s, true)
		}
	}
}

func TestPutOfRowsThatDoNotFit(t *testing.T) {
	for err, rows := range noRows() {
		for _, row := range rows {
			for _, s := range list(api.Sheet{Table: plain()}, sheetOf(plain(), rowsOf(1)...), three()) {
				wantNoPut(t, s, row, err)
			}
		}
	}
	of := tableOfInts(3)
	for _, row := range list(list(num(1), num(2), null(), null()), list(null(), num(2), num(3), null()), list(num(1), num(2), num(3)), list(num(1), num(2), num(3), num(4))) {
		wantNoPut(t, sheetOf(of, list(num(1), num(2), num(3), null())), row, api.ErrType)
	}
	// The first wrong value is told, but a wrong count ahead of it.
	wantNoPut(t, three(), list(sample.Bool(2), text("\xff")), api.ErrRange)
	wantNoPut(t, three(), list(num(1), text("\xff")), api.ErrText)
	wantNoPut(t, three(), list(null(), text("\xff")), api.ErrType)
	wantNoPut(t, three(), list(sample.Bool(2)), api.ErrType)
}

func TestPutIntoTablesThatMayNotBe(t *testing.T) {
	for _, no := range refused() {
		for _, s := range list(keyed(), keyed("a", "b"), three()) {
			s.Table = no.Table
			for _, row := range list(nil, rowsOf(1)[0], list(sample.Bool(2)), make([]api.Value, len(no.Table.Cols))) {
				wantNoPut(t, s, row, no.Err)
			}
		}
	}
}

// The lines that are there are not asked for: Put goes by their Keys alone.
func TestPutAmongOtherLines(t *testing.T) {
	row := rowsOf(1)[0]
	key := keyOf(plain(), row)
	line := api.Line{Key: key, Row: row}
	l := keyed("", "\x01", "\x03", "\xff").Lines
	wantPut(t, api.Sheet{Table: plain(), Lines: l}, row, api.Sheet{Table: plain(), Lines: slices.Insert(slices.Clone(l), 2, line)}, true)
	l = keyed(key[:3], key, key+"\x00").Lines
	wantPut(t, api.Sheet{Table: plain(), Lines: l}, row, api.Sheet{Table: plain(), Lines: put(l, 1, line)}, false)
}

func TestDelete(t *testing.T) {
	for count := range 6 {
		s := sheetOf(plain(), rowsOf(1, 3, 5, 7, 9)[:count]...)
		for at, line := range s.Lines {
			wantDelete(t, s, line.Key, api.Sheet{Table: plain(), Lines: without(s.Lines, at)}, true)
		}
		for _, r := range rowsOf(0, 2, 4, 6, 8, 10) {
			wantDelete(t, s, keyOf(plain(), r), s, false)
		}
		for _, key := range list("", "\x00", "\x02", "\xff") {
			wantDelete(t, s, key, s, false)
		}
		for _, line := range s.Lines {
			wantDelete(t, s, line.Key[:len(line.Key)-1], s, false)
			wantDelete(t, s, line.Key+"\x00", s, false)
		}
	}
}

// Delete goes by Keys alone: it asks neither for the table nor for the rows.
func TestDeleteAmongEachChoice(t *testing.T) {
	tables := list(plain(), api.Table{}, ints(9, 9))
	for i, keys := range choices(edgyKeys()) {
		s := keyed(keys...)
		s.Table = tables[i%len(tables)]
		for _, key := range probes() {
			if at, is := placeOf(s, key); is {
				wantDelete(t, s, key, api.Sheet{Table: s.Table, Lines: without(s.Lines, at)}, true)
			} else {
				wantDelete(t, s, key, s, false)
			}
		}
	}
}
