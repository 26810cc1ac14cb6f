package model_test

import (
	"math/rand"
	"slices"
	"testing"

	"transom/api"
	"transom/model"
	"transom/sample"
)

// allOps tells ops of each Kind that are OK where three's rows stand in m and in p, whose keys differ, and one that is not.
func allOps() []api.Op {
	row := rowsOfThree(1)[0]
	return list(
		getting("m", num(2)), scanning("m", nil, nil, 64), inserting("m", put(row, 0, num(5))...), updating("m", put(row, 0, num(2))...), deleting("m", num(2)),
		changing(creating(three())), changing(creating(plain())), changing(adding("m", open("n", api.KindInt))), changing(dropping("m", "v")), changing(retyping("m", "v", api.KindInt)),
		changing(splitting("m", "a", "b", "v")), changing(merging("m", "p", "a")), api.Op{},
	)
}

// Lists that are one in memory, handed in more than once, become lists that are not.
func TestOneRowOfMany(t *testing.T) {
	row := rowsOfThree(1)[0]
	s, u := sheetOf(three(), rowsOfThree(4)...), sheetOf(renamed(three(), "p"), rowsOfThree(1)[0])
	for i := range s.Lines {
		s.Lines[i].Row = row
	}
	u.Table.Cols = s.Table.Cols
	u.Lines = sheetOf(u.Table, put(row, 0, num(0))).Lines
	u.Lines[0].Row = row
	for _, o := range allOps() {
		if o.Kind == api.OpInsert || o.Kind == api.OpUpdate {
			row[0] = o.Row[0]
			o.Row = row
		}
		l := list(s, u, api.Sheet{Table: renamed(s.Table, "x"), Lines: s.Lines})
		was := sample.CopiedSheets(l)
		got, reply := model.Do(l, o)
		scribble(t, got, list(reply))
		got, replies := model.Run(l, list(o, scanning("x", nil, nil, 64), getting("x", num(2)), o))
		scribble(t, got, replies)
		if !alike(l, was) {
			t.Fatalf("%+v: the answer shares memory with what was handed in", o)
		}
	}
}

// Replies of one Run that tell the same rows share none of them, nor do the tables that are left.
func TestRowsToldTwice(t *testing.T) {
	l := list(sheetOf(three(), rowsOfThree(4)...), named("x", 1, 2))
	for _, o := range allOps() {
		_, replies := askRun(t, l, list(getting("m", num(2)), getting("m", num(2)), o, scanning("m", nil, nil, 64), getting("m", num(3)), getting("m", num(3))))
		if len(replies) != 6 || !replyAlike(replies[0], replies[1]) || !replyAlike(replies[4], replies[5]) {
			t.Errorf("%+v: %+v", o, replies)
		}
	}
}

// spoiltLists tells lists that are no tables: names that do not rise, too many, tables that may not be, and sheets that may not.
func spoiltLists() [][]api.Sheet {
	m := sheetOf(three(), rowsOfThree(4)...)
	l := list(
		list(named("z", 1), m, named("a", 1)),
		list(m, m),
		list(m, named("m", 1, 2)),
		list(named("m", 1), m, named("p", 2), m),
		append(many(20), m),
		append(list(m), many(20)...),
		list(m, api.Sheet{}, api.Sheet{}),
		make([]api.Sheet, 17),
	)
	for _, other := range differing() {
		l = append(l, list(named("a", 1), other, named("p", 1)), list(other, m), list(m, other))
	}
	for _, no := range sample.RefusedTables() {
		l = append(l, list(m, api.Sheet{Table: no.Table, Lines: m.Lines}), list(api.Sheet{Table: no.Table}, m))
		spoilt := m
		spoilt.Table = renamed(no.Table, "m")
		l = append(l, list(named("a"), spoilt), list(spoilt, named("p", 7)))
	}
	for _, keys := range list(list("", ""), list("b", "a"), list("a", "b", "a"), list("\xff", "", "\x02")) {
		s := api.Sheet{Table: three()}
		for i, key := range keys {
			s.Lines = append(s.Lines, api.Line{Key: key, Row: rowsOfThree(4)[i]}, api.Line{Key: key, Row: list(null())[:i%2]})
		}
		l = append(l, list(s), list(s, named("p", 1)), list(named("a"), s, api.Sheet{Table: renamed(three(), "p"), Lines: s.Lines}))
	}
	return l
}

// Of what are no tables the calls answer something, and end: nothing is changed, and no memory is shared.
func TestListsThatMayNotBe(t *testing.T) {
	r := rand.New(rand.NewSource(131))
	for _, l := range spoiltLists() {
		ops := allOps()
		for range 20 {
			ops = append(ops, sample.AnyOp(r.Intn, l))
		}
		for _, o := range ops {
			got, reply := askDo(t, l, o)
			wantSame(t, got, sample.CopiedSheets(got), true)
			if again, told := askDo(t, l, o); !alike(got, again) || !replyAlike(reply, told) {
				t.Errorf("Do(%+v, %+v) = %+v, %+v, then %+v, %+v", l, o, got, reply, again, told)
			}
		}
		askRun(t, l, slices.Concat(ops, ops))
	}
}
