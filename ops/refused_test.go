package ops_test

import (
	"slices"
	"strings"
	"testing"

	"transom/api"
	"transom/sample"
)

// Numbers that are no Kind, no Type and no Max of anything.
var farOff = []int{api.MinInt, api.MinInt + 1, -1 << 32, -256, -255, 101, 127, 128, 256, 257, 262, 1 << 32, 1<<32 + 1, 1<<32 + 6, 1 << 62, api.MaxInt}

// noCol is what is no column, and the error that chapter 9's Put tells of the table around it.
type noCol struct {
	c   api.Col
	err api.Errno
}

// noCols tells columns that may not be: of each error, and of each value that may not be a Default.
func noCols() []noCol {
	l := list(
		noCol{api.Col{}, api.ErrName},
		noCol{open("", api.KindInt), api.ErrName},
		noCol{open("1a", api.KindInt), api.ErrName},
		noCol{open("K", api.KindInt), api.ErrName},
		noCol{open(tooLong, api.KindInt), api.ErrName},
		noCol{open("v", api.KindNull), api.ErrKind},
		noCol{open("v", 6), api.ErrKind},
		noCol{open("k", -1), api.ErrKind},
		noCol{open("v", api.MaxInt), api.ErrKind},
		noCol{with(open("v", api.KindInt), sample.Bool(1)), api.ErrType},
		noCol{with(open("k", api.KindText), sample.Bytes("x")), api.ErrType},
		// Two faults at once.
		noCol{open("", 6), api.ErrName},
		noCol{with(open("v", 6), sample.Bool(2)), api.ErrKind},
	)
	for _, no := range refused() {
		l = append(l, noCol{with(open("v", api.KindInt), no.Value), no.Err}, noCol{with(col("k", api.KindText), no.Value), no.Err})
	}
	return l
}

func TestPutChangeOfWhatIsNoTable(t *testing.T) {
	for _, no := range sample.RefusedTables() {
		wantNoPutChange(t, creating(no.Table), no.Err)
		wantNoPutChange(t, named(typed(filled(creating(no.Table)), 100), times(longest, 8)...), no.Err)
	}
	for _, no := range noCols() {
		wantNoPutChange(t, creating(table("t", 1, col("first", api.KindInt), no.c)), no.err)
	}
}

func TestPutChangeOfWhatIsNoColumn(t *testing.T) {
	for _, no := range noCols() {
		wantNoPutChange(t, adding("t", no.c), no.err)
		wantNoPutChange(t, named(typed(filled(adding("t", no.c)), 100), times(longest, 8)...), no.err)
	}
}

// changeFault is what is wrong with a change: in which turn it is asked for, and what is told.
type changeFault struct {
	turn int
	make func(c *api.Change)
	err  api.Errno
}

// changeFaults tells faults of a change, whose Kind is right unless it is the fault.
func changeFaults() []changeFault {
	return []changeFault{
		{0, func(c *api.Change) { c.Kind = 0 }, api.ErrArg},
		{0, func(c *api.Change) { c.Kind = -1 }, api.ErrArg},
		{0, func(c *api.Change) { c.Kind = 7 }, api.ErrArg},
		{0, func(c *api.Change) { c.Type = -1 }, api.ErrArg},
		{0, func(c *api.Change) { c.Type = 101 }, api.ErrArg},
		{0, func(c *api.Change) { c.Names = times("n", 9) }, api.ErrArg},
		{0, func(c *api.Change) { c.Names = times(tooLong, 9) }, api.ErrArg},
		{1, func(c *api.Change) { c.Table = tooLong }, api.ErrName},
		{1, func(c *api.Change) { c.Other = tooLong }, api.ErrName},
		{1, func(c *api.Change) { c.To = tooLong }, api.ErrName},
		{1, func(c *api.Change) { c.Also = tooLong }, api.ErrName},
		{1, func(c *api.Change) { c.Name = tooLong }, api.ErrName},
		{1, func(c *api.Change) { c.Names = list(tooLong) }, api.ErrName},
		{1, func(c *api.Change) { c.Names = append(times("n", 7), tooLong) }, api.ErrName},
		{2, func(c *api.Change) { c.Def, c.Col = ints(0, 1), open("v", 6) }, noTableError},
		{2, func(c *api.Change) { c.Def, c.Col = ints(0, 1), with(open("v", api.KindInt), sample.Bool(2)) }, noTableError},
		{2, func(c *api.Change) { c.Def, c.Col = ints(1, 9), with(open("k", api.KindInt), sample.Bool(1)) }, noTableError},
	}
}

// noTableError stands for the error that chapter 9 tells of Def, or of Col's table.
const noTableError = -1

// Two faults at once: the one that is asked for first is told.
func TestPutChangeOfTwoFaults(t *testing.T) {
	for _, of := range kindsOfChanges() {
		for _, first := range changeFaults() {
			for _, second := range changeFaults() {
				c := of
				second.make(&c)
				first.make(&c)
				if first.turn < second.turn && first.err != noTableError {
					wantNoPutChange(t, c, first.err)
				}
			}
		}
	}
}

// opFault is what is wrong with an op: in which turn it is asked for, and what is told.
type opFault struct {
	turn int
	make func(o *api.Op)
	err  api.Errno
}

// opFaults tells faults of an op; those of Change are faults of an OpChange alone.
func opFaults() []opFault {
	var l []opFault
	for _, kind := range append(slices.Clone(farOff), 0, -1, 10) {
		l = append(l, opFault{0, func(o *api.Op) { o.Kind = kind }, api.ErrArg})
	}
	for _, most := range append(slices.Clone(farOff), -1, 65) {
		l = append(l, opFault{0, func(o *api.Op) { o.Max = most }, api.ErrArg})
	}
	l = append(l, opFault{1, func(o *api.Op) { o.Table = tooLong }, api.ErrName}, opFault{1, func(o *api.Op) { o.Table = strings.Repeat("\xff", 300) }, api.ErrName})
	for _, no := range noRows() {
		l = append(l,
			opFault{2, func(o *api.Op) { o.Row = no.l }, no.err},
			opFault{3, func(o *api.Op) { o.Lo = no.l }, no.err},
			opFault{4, func(o *api.Op) { o.Hi = no.l }, no.err})
	}
	return append(l,
		opFault{5, func(o *api.Op) { o.Change.Type = 101 }, api.ErrArg},
		opFault{5, func(o *api.Op) { o.Change.Name = tooLong }, api.ErrName},
		opFault{5, func(o *api.Op) { o.Change = creating(table("t", 1)) }, api.ErrLimit},
		opFault{5, func(o *api.Op) { o.Change = api.Change{} }, api.ErrArg})
}

// noRow is what is no row, and the error that chapter 6's Put tells of it.
type noRow struct {
	l   []api.Value
	err api.Errno
}

// noRows tells rows that may not be.
func noRows() []noRow {
	l := list(
		noRow{times(null(), 9), api.ErrLimit},
		noRow{times(null(), 300), api.ErrLimit},
		noRow{times(said("\xff"), 9), api.ErrLimit},
		noRow{append(times(null(), 7), said("\xff")), api.ErrText},
		noRow{list(sample.Bool(2), said("\xff")), api.ErrRange},
		noRow{list(said("\xff"), sample.Bool(2)), api.ErrText},
	)
	for _, no := range refused() {
		l = append(l, noRow{list(no.Value), no.Err}, noRow{list(num(1), no.Value), no.Err})
	}
	return l
}

// Each fault alone, of each Kind. Faults of Change are asked for of an OpChange alone.
func TestPutOfOneFault(t *testing.T) {
	for kind := api.OpGet; kind <= api.OpAbort; kind++ {
		for _, no := range opFaults() {
			o := api.Op{Kind: kind, Table: "t", Row: mixed(), Lo: list(num(1)), Max: 1, Change: merging("a", "b", "c")}
			no.make(&o)
			if no.turn == 5 && kind != api.OpChange {
				wantPut(t, o, rawOp(o))
			} else {
				wantNoPut(t, o, no.err)
			}
		}
	}
}

// Two faults at once: the one that is asked for first is told.
func TestPutOfTwoFaults(t *testing.T) {
	for _, first := range opFaults() {
		for _, second := range opFaults() {
			if first.turn < second.turn {
				o := changing(merging("a", "b", "c"))
				second.make(&o)
				first.make(&o)
				wantNoPut(t, o, first.err)
			}
		}
	}
}

func TestKindsOfOps(t *testing.T) {
	for kind := -300; kind <= 600; kind++ {
		o := api.Op{Kind: kind, Change: merging("a", "b", "c")}
		if kind >= 1 && kind <= 9 {
			wantPut(t, o, rawOp(o))
		} else {
			wantNoPut(t, o, api.ErrArg)
		}
	}
}

// Max of each Kind, those among them that no scan may have.
func TestMax(t *testing.T) {
	for kind := api.OpGet; kind <= api.OpAbort; kind++ {
		for most := -300; most <= 600; most++ {
			o := api.Op{Kind: kind, Max: most}
			if kind == api.OpChange {
				o.Change = merging("a", "b", "c")
			}
			if most >= 0 && most <= 64 {
				s := rawOp(o)
				wantPut(t, o, s)
				wantRead(t, s, o, "")
			} else {
				wantNoPut(t, o, api.ErrArg)
			}
		}
	}
}

func TestTableOfEachLength(t *testing.T) {
	for kind := api.OpGet; kind <= api.OpAbort; kind++ {
		for size := range 300 {
			o := api.Op{Kind: kind, Table: strings.Repeat("t", size), Change: dropping("t", "v")}
			if size > 16 {
				wantNoPut(t, o, api.ErrName)
				continue
			}
			s := rawOp(o)
			wantPut(t, o, s)
			if kind != api.OpChange {
				o.Change = api.Change{}
			}
			wantRead(t, s, o, "")
		}
	}
}
