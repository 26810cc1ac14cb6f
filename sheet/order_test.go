package sheet_test

import (
	"maps"
	"math/rand"
	"slices"
	"testing"

	"transom/api"
	"transom/sample"
	"transom/schema"
)

// book is a sheet in other words: rows under their keys, in no order.
type book map[string][]api.Value

// sheet tells b in order.
func (b book) sheet(of api.Table) api.Sheet {
	s := api.Sheet{Table: of}
	for _, key := range slices.Sorted(maps.Keys(b)) {
		s.Lines = append(s.Lines, api.Line{Key: key, Row: b[key]})
	}
	return s
}

// anyKey tells a key of a row of of, or nearly.
func anyKey(d sample.Dice, of api.Table) string {
	key := keyOf(of, sample.AnyRow(d, of))
	switch d(8) {
	case 0:
		return key[:d(len(key))]
	case 1:
		return key + "\x00"
	case 2:
		return ""
	}
	return key
}

// Sheets of tables of all kinds that rows are put into, and deleted from, one by one, held against maps.
func TestManySheets(t *testing.T) {
	r := rand.New(rand.NewSource(12))
	var fresh, again, refusedRows, gone, missed int
	for range 300 {
		of := sample.AnyTable(r.Intn, "t")
		s, b := api.Sheet{Table: of}, book{}
		for range 40 {
			row := sample.Spoilt(r.Intn, sample.AnyRow(r.Intn, of))
			key, why := schema.Key(of, row)
			_, there := b[key]
			got, is, err := askPut(t, s, row)
			switch {
			case why != api.OK:
				refusedRows++
			case there:
				again++
			default:
				fresh++
			}
			if why == api.OK {
				b[key] = row
			}
			if err != why || is != (why == api.OK && !there) || !alike(got, b.sheet(of)) {
				t.Fatalf("Put(%+v, %+v) = %+v, %t, %d, not %+v, %d", s, row, got, is, err, b.sheet(of), why)
			}
			s = got
			if r.Intn(3) == 0 {
				key := anyKey(r.Intn, of)
				_, there := b[key]
				delete(b, key)
				got, was := askDelete(t, s, key)
				if was != there || !alike(got, b.sheet(of)) {
					t.Fatalf("Delete(%+v, %q) = %+v, %t, not %+v", s, key, got, was, b.sheet(of))
				}
				if there {
					gone++
				} else {
					missed++
				}
				s = got
			}
			wantCheck(t, s, api.OK)
			lo, hi, most := anyKey(r.Intn, of), anyKey(r.Intn, of), r.Intn(9)-1
			at, found := placeOf(s, lo)
			wantPlace(t, s, lo, at, found)
			wantRange(t, s, lo, hi, most, rangeOf(s, lo, hi, most))
		}
	}
	for _, count := range list(fresh, again, refusedRows, gone, missed) {
		if count < 100 {
			t.Errorf("met too seldom: %d", list(fresh, again, refusedRows, gone, missed))
			break
		}
	}
}

// Sheets of one table, merged: what comes of them is a sheet again.
func TestManyMerges(t *testing.T) {
	r := rand.New(rand.NewSource(122))
	var merged, collided int
	for range 3000 {
		of := sample.AnyTable(r.Intn, "t")
		a, b := book{}, book{}
		for range r.Intn(6) {
			row := sample.AnyRow(r.Intn, of)
			a[keyOf(of, row)] = row
		}
		for range r.Intn(6) {
			row := sample.AnyRow(r.Intn, of)
			b[keyOf(of, row)] = row
		}
		want, ok := mergeOf(a.sheet(of), b.sheet(of))
		if !ok {
			collided++
			wantNoMerge(t, a.sheet(of), b.sheet(of))
			continue
		}
		merged++
		wantMerge(t, a.sheet(of), b.sheet(of), want)
		wantCheck(t, api.Sheet{Table: of, Lines: want}, api.OK)
	}
	if merged < 300 || collided < 300 {
		t.Errorf("only %d merged, %d collided", merged, collided)
	}
}
