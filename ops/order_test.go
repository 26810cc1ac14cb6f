package ops_test

import (
	"math/rand"
	"slices"
	"strings"
	"testing"

	"transom/api"
	"transom/ops"
	"transom/pack"
	"transom/rows"
	"transom/sample"
	"transom/schema"
)

// whyNoChange tells the error that promise 14.1 says of PutChange of c, in other words.
func whyNoChange(c api.Change) api.Errno {
	if c.Kind < 1 || c.Kind > 6 || c.Type < 0 || c.Type > 100 || len(c.Names) > 8 {
		return api.ErrArg
	}
	for _, s := range append(list(c.Table, c.Other, c.To, c.Also, c.Name), c.Names...) {
		if len(s) > 16 {
			return api.ErrName
		}
	}
	switch c.Kind {
	case api.ChangeCreate:
		return schema.Check(c.Def)
	case api.ChangeAdd:
		return schema.CheckCol(c.Col)
	}
	return api.OK
}

// whyNoOp tells the error that promise 14.2 says of Put of o, in other words.
func whyNoOp(o api.Op) api.Errno {
	if o.Kind < 1 || o.Kind > 9 || o.Max < 0 || o.Max > 64 {
		return api.ErrArg
	}
	if len(o.Table) > 16 {
		return api.ErrName
	}
	for _, row := range list(o.Row, o.Lo, o.Hi) {
		if _, err := rows.Put(row); err != api.OK {
			return err
		}
	}
	if o.Kind == api.OpChange {
		return whyNoChange(o.Change)
	}
	return api.OK
}

// reader reads bytes from their beginning on: its methods tell nothing behind an error.
type reader struct {
	s    string
	err  api.Errno
	late bool // a text is too long to be written
}

// take keeps what is behind, and the error, and tells whether there is none.
func (r *reader) take(rest string, err api.Errno) bool {
	r.s, r.err = rest, err
	return err == api.OK
}

// number tells a number that must be low to high.
func (r *reader) number(low, high uint64) int {
	if r.err != api.OK {
		return 0
	}
	n, rest, err := pack.ReadUint(r.s)
	if r.take(rest, err) && (n < low || n > high) {
		r.err = api.ErrArg
		return 0
	}
	return int(n)
}

// text tells a text.
func (r *reader) text() string {
	if r.err != api.OK {
		return ""
	}
	s, rest, err := pack.ReadText(r.s)
	r.take(rest, err)
	return s
}

// name tells a text that, at last, must be no longer than a name.
func (r *reader) name() string {
	s := r.text()
	r.late = r.late || len(s) > 16
	return s
}

// row tells a row.
func (r *reader) row() []api.Value {
	s := r.text()
	if r.err != api.OK {
		return nil
	}
	row, err := rows.Read(s)
	r.err = err
	return row
}

// table tells a table.
func (r *reader) table() api.Table {
	if r.err != api.OK {
		return api.Table{}
	}
	t, rest, err := schema.Read(r.s)
	r.take(rest, err)
	return t
}

// change tells a change.
func (r *reader) change() api.Change {
	c := api.Change{Kind: r.number(1, 6), Table: r.name(), Other: r.name(), To: r.name(), Also: r.name(), Name: r.name(), Type: r.number(0, 100)}
	for range r.number(0, 8) {
		if r.err == api.OK {
			c.Names = append(c.Names, r.name())
		}
	}
	if c.Kind == api.ChangeCreate {
		c.Def = r.table()
	}
	if c.Kind == api.ChangeAdd {
		t := r.table()
		if r.err == api.OK {
			c.Col = t.Cols[len(t.Cols)-1]
			r.late = r.late || rawTable(t) != rawTable(tableAround(c.Col))
		}
	}
	return c
}

// op tells an op.
func (r *reader) op() api.Op {
	o := api.Op{Kind: r.number(1, 9), Table: r.name(), Row: r.row(), Lo: r.row(), Hi: r.row(), Max: r.number(0, 64)}
	if r.err == api.OK && o.Kind == api.OpChange {
		late := r.late
		r.late = false
		o.Change = r.change()
		r.end()
		r.late = late
	}
	return o
}

// end makes what is told at last an error.
func (r *reader) end() {
	if r.err == api.OK && r.late {
		r.err = api.ErrForm
	}
}

// wantAsRead holds Read of s against what promise 14.2 says of it, and ReadChange against what 14.1 says, in other words; and tells how many of both are OK.
func wantAsRead(t *testing.T, s string) int {
	t.Helper()
	read := 0
	r := &reader{s: s}
	o := r.op()
	if r.end(); r.err == api.OK {
		wantRead(t, s, o, r.s)
		wantPut(t, o, strings.TrimSuffix(s, r.s))
		read++
	} else {
		wantNotRead(t, s, r.err)
	}
	r = &reader{s: s}
	c := r.change()
	if r.end(); r.err == api.OK {
		wantReadChange(t, s, c, r.s)
		wantPutChange(t, c, strings.TrimSuffix(s, r.s))
		read++
	} else {
		wantNotReadChange(t, s, r.err)
	}
	return read
}

// Bytes of ops and of changes with one changed, left out or put in: the first error is told, or what is read is written as it was.
func TestReadOfChangedBytes(t *testing.T) {
	r := rand.New(rand.NewSource(142))
	var all []string
	for _, o := range someOps() {
		all = append(all, rawOp(o))
	}
	for _, c := range someChanges() {
		all = append(all, rawChange(c))
	}
	read := 0
	for range 60000 {
		s := all[r.Intn(len(all))]
		for range 1 + r.Intn(2) {
			at, b := r.Intn(len(s)), string([]byte{byte(r.Intn(256))})
			if r.Intn(2) == 0 {
				b = string([]byte{byte(r.Intn(11))})
			}
			s = s[:at] + list("", b, b+s[at:at+1])[r.Intn(3)] + s[at+1:]
			if s == "" {
				s = b
			}
		}
		read += wantAsRead(t, s)
	}
	if read < 5000 {
		t.Errorf("%d alone were read", read)
	}
}

// Short texts of bytes that are often met.
func TestReadOfAllShortTexts(t *testing.T) {
	bytes := []byte{0, 1, 2, 6, 9, 10, 65, 128}
	texts := list("")
	for range 5 {
		var next []string
		for _, s := range texts {
			wantAsRead(t, s)
			for _, b := range bytes {
				next = append(next, s+string([]byte{b}))
			}
		}
		texts = next
	}
}

// anyOp tells an op of those tables, which now and then has a fault that is Put's own.
func anyOp(r *rand.Rand, l []api.Sheet) api.Op {
	o := sample.AnyOp(r.Intn, l)
	if r.Intn(2) == 0 {
		o.Max = r.Intn(65)
	}
	if r.Intn(2) == 0 {
		o.Kind, o.Row = api.OpChange, nil
	}
	switch r.Intn(12) {
	case 0:
		o.Change.Type = sample.Pick(r.Intn, list(6, 99, 100, 101, -1))
	case 1:
		o.Change.Names = times(sample.Pick(r.Intn, list("", "n", longest, tooLong)), r.Intn(11))
	case 2:
		o.Change = sample.Pick(r.Intn, longTexts(o.Change, sample.Pick(r.Intn, list("", longest, tooLong))))
	case 3:
		o.Table = sample.Pick(r.Intn, list("", longest, tooLong))
	case 4:
		o.Row = times(said("x"), r.Intn(11))
	}
	return o
}

// sheets tells tables and no rows.
func sheets(r *rand.Rand) []api.Sheet {
	var l []api.Sheet
	for _, t := range sample.AnyTables(r.Intn) {
		l = append(l, api.Sheet{Table: t})
	}
	return l
}

// written tells o with those fields alone that are written of it.
func written(o api.Op) api.Op {
	if o.Kind != api.OpChange {
		o.Change = api.Change{}
	}
	if o.Change.Kind != api.ChangeCreate {
		o.Change.Def = api.Table{}
	}
	if o.Change.Kind != api.ChangeAdd {
		o.Change.Col = api.Col{}
	}
	return o
}

// Ops of all kinds, faulty ones among them, as bytes and back; and whether each is the same as the one ahead.
func TestManyOps(t *testing.T) {
	r := rand.New(rand.NewSource(143))
	last := api.Op{}
	told := 0
	for range 1500 {
		l := sheets(r)
		for range 10 {
			o := anyOp(r, l)
			s := rawOp(api.Op{Kind: api.OpBegin})
			if err := whyNoOp(o); err != api.OK {
				wantNoPut(t, o, err)
			} else {
				told++
				s = rawOp(o)
				wantPut(t, o, s)
				wantRead(t, s+"z", written(o), "z")
			}
			if err := whyNoChange(o.Change); err != api.OK {
				wantNoPutChange(t, o.Change, err)
			} else {
				c := written(changing(o.Change)).Change
				wantPutChange(t, o.Change, rawChange(c))
				wantReadChange(t, rawChange(c)+s, c, s)
			}
			wantSame(t, o, last, sameInWords(o, last))
			wantSame(t, o, o, sameInWords(o, o))
			last = o
		}
	}
	if told < 2000 {
		t.Errorf("%d alone were written", told)
	}
}

// sameInWords tells what promise 14.2 says of Same, in other words.
func sameInWords(a, b api.Op) bool {
	if whyNoOp(a) == api.OK && whyNoOp(b) == api.OK {
		return rawOp(a) == rawOp(b)
	}
	is := a.Kind == b.Kind && a.Table == b.Table && a.Max == b.Max && slices.Equal(a.Row, b.Row) && slices.Equal(a.Lo, b.Lo) && slices.Equal(a.Hi, b.Hi)
	if is && a.Kind == api.OpChange {
		return whyNoChange(a.Change) == api.OK && whyNoChange(b.Change) == api.OK && rawChange(a.Change) == rawChange(b.Change)
	}
	return is
}

// Two that differ in little: what is told of both fits what Put tells of them.
func TestSameAndPut(t *testing.T) {
	for _, kind := range list(api.OpGet, api.OpChange, api.OpAbort) {
		o := base(kind)
		l := append(otherOps(o), o)
		for _, c := range otherChanges(o.Change) {
			of := o
			of.Change = c
			l = append(l, of)
		}
		for i, a := range l {
			for j, b := range l {
				if (i+j)%3 > 0 {
					continue
				}
				left, errA := ops.Put(a)
				right, errB := ops.Put(b)
				wantSame(t, a, b, sameInWords(a, b))
				if errA == api.OK && errB == api.OK && ops.Same(a, b) != (left == right) {
					t.Errorf("Same of %+v, %+v is not what Put tells of them", a, b)
				}
			}
		}
	}
}
