package rows_test

import (
	"encoding/binary"
	"math"
	"math/rand"
	"slices"
	"strings"
	"testing"

	"transom/api"
	"transom/rows"
	"transom/sample"
	"transom/values"
)

// row tells its arguments as a row.
func row(l ...api.Value) []api.Value {
	return l
}

// nulls tells a row of so many nulls.
func nulls(count int) []api.Value {
	return make([]api.Value, count)
}

// Sizes that stand at the border of what a text may have.
var (
	bytes64 = strings.Repeat("\xff", api.MaxText)
	text64  = strings.Repeat("x", api.MaxText)
)

// written holds rows, and the bytes that promise 6.1 says of them.
var written = []struct {
	l []api.Value
	s string
}{
	{row(sample.Null(), sample.Int(1)), "\x02\x00\x02\x02"}, // the chapter's example
	{nil, "\x00"},
	{row(sample.Null()), "\x01\x00"},
	{row(sample.Bool(0)), "\x01\x01\x00"},
	{row(sample.Bool(1)), "\x01\x01\x01"},
	{row(sample.Int(0)), "\x01\x02\x00"},
	{row(sample.Int(-1)), "\x01\x02\x01"},
	{row(sample.Int(1)), "\x01\x02\x02"},
	{row(sample.Int(-2)), "\x01\x02\x03"},
	{row(sample.Int(63)), "\x01\x02\x7e"},
	{row(sample.Int(64)), "\x01\x02\x80\x01"},
	{row(sample.Int(150)), "\x01\x02\xac\x02"},
	{row(sample.Int(math.MaxInt)), "\x01\x02\xfe\xff\xff\xff\xff\xff\xff\xff\xff\x01"},
	{row(sample.Int(math.MinInt)), "\x01\x02\xff\xff\xff\xff\xff\xff\xff\xff\xff\x01"},
	{row(sample.Real(0)), "\x01\x03\x00\x00\x00\x00\x00\x00\x00\x00"},
	{row(sample.Real(sample.Sign)), "\x01\x03\x80\x00\x00\x00\x00\x00\x00\x00"},
	{row(sample.Real(1)), "\x01\x03\x00\x00\x00\x00\x00\x00\x00\x01"},
	{row(sample.Real(0x0102030405060708)), "\x01\x03\x01\x02\x03\x04\x05\x06\x07\x08"},
	{row(sample.Real(sample.One)), "\x01\x03\x3f\xf0\x00\x00\x00\x00\x00\x00"},
	{row(sample.Real(sample.Inf)), "\x01\x03\x7f\xf0\x00\x00\x00\x00\x00\x00"},
	{row(sample.Real(sample.Sign | sample.Inf)), "\x01\x03\xff\xf0\x00\x00\x00\x00\x00\x00"},
	{row(sample.Real(sample.TheNaN)), "\x01\x03\x7f\xf8\x00\x00\x00\x00\x00\x00"},
	{row(sample.Bytes("")), "\x01\x04\x00"},
	{row(sample.Bytes("\x00")), "\x01\x04\x01\x00"},
	{row(sample.Bytes("\xff\x00a")), "\x01\x04\x03\xff\x00a"},
	{row(sample.Bytes(bytes64)), "\x01\x04\x40" + bytes64},
	{row(sample.Text("")), "\x01\x05\x00"},
	{row(sample.Text("a")), "\x01\x05\x01a"},
	{row(sample.Text("\x00\xc3\xa4")), "\x01\x05\x03\x00\xc3\xa4"},
	{row(sample.Text(text64)), "\x01\x05\x40" + text64},
	{row(sample.Text("ab"), sample.Bytes("ab")), "\x02\x05\x02ab\x04\x02ab"},
	{row(sample.Null(), sample.Bool(1), sample.Int(-1), sample.Real(sample.One), sample.Bytes("\x80"), sample.Text("z")),
		"\x06\x00\x01\x01\x02\x01\x03\x3f\xf0\x00\x00\x00\x00\x00\x00\x04\x01\x80\x05\x01z"},
	{nulls(8), "\x08\x00\x00\x00\x00\x00\x00\x00\x00"},
	{row(sample.Text(text64), sample.Text(text64), sample.Text(text64), sample.Text(text64), sample.Text(text64), sample.Text(text64), sample.Text(text64), sample.Text(text64)),
		"\x08" + strings.Repeat("\x05\x40"+text64, 8)},
}

func TestPutWritesEachRowAsSaid(t *testing.T) {
	for _, c := range written {
		if s, err := rows.Put(c.l); s != c.s || err != api.OK {
			t.Errorf("Put of %v: %q, %d, not %q", c.l, s, err, c.s)
		}
	}
}

// wantPutError tells that Put of l tells want, and nothing beside it.
func wantPutError(t *testing.T, l []api.Value, want api.Errno) {
	t.Helper()
	if s, err := rows.Put(l); s != "" || err != want {
		t.Errorf("Put of %v: %q, %d, not %d", l, s, err, want)
	}
}

func TestPutRefusesValuesThatMayNotBe(t *testing.T) {
	for _, c := range sample.Refused() {
		wantPutError(t, row(c.Value), c.Err)
		for place := range api.MaxCols {
			l := nulls(api.MaxCols)
			l[place] = c.Value
			wantPutError(t, l, c.Err)
		}
	}
}

func TestPutTellsTheFirstValuesError(t *testing.T) {
	for _, c := range sample.Refused() {
		for _, d := range sample.Refused() {
			wantPutError(t, row(sample.Int(1), c.Value, sample.Null(), d.Value), c.Err)
		}
	}
}

func TestPutRefusesTooManyAheadOfAll(t *testing.T) {
	for _, count := range []int{9, 10, 128, 1000} {
		wantPutError(t, nulls(count), api.ErrLimit)
		for _, c := range sample.Refused() {
			for _, place := range []int{0, count / 2, count - 1} {
				l := nulls(count)
				l[place] = c.Value
				wantPutError(t, l, api.ErrLimit)
			}
		}
	}
}

func TestReadTellsTheRowThatWasPut(t *testing.T) {
	for _, c := range written {
		if l, err := rows.Read(c.s); !slices.Equal(l, c.l) || err != api.OK {
			t.Errorf("Read of %q: %v, %d, not %v", c.s, l, err, c.l)
		}
	}
}

// wantReadError tells that Read of s tells want, and nothing beside it.
func wantReadError(t *testing.T, s string, want api.Errno) {
	t.Helper()
	if l, err := rows.Read(s); len(l) != 0 || err != want {
		t.Errorf("Read of %q: %v, %d, not %d", s, l, err, want)
	}
}

func TestReadOfARowCutOff(t *testing.T) {
	for _, c := range written {
		for size := range len(c.s) {
			wantReadError(t, c.s[:size], api.ErrShort)
		}
	}
}

func TestReadOfBytesLeftBehind(t *testing.T) {
	for _, c := range written {
		for _, more := range []string{"\x00", "\x05", "z", "\xff", "\x00\x00", c.s} {
			wantReadError(t, c.s+more, api.ErrForm)
		}
	}
}

func TestReadRefusesWhatPutDoesNotWrite(t *testing.T) {
	zeros, ones := strings.Repeat("\x00", 7), strings.Repeat("\xff", 9)
	for _, c := range []struct {
		s   string
		err api.Errno
	}{
		// How many there are.
		{"", api.ErrShort},
		{"\x80", api.ErrShort},
		{"\x80\x00", api.ErrForm},
		{"\x81\x00\x00", api.ErrForm},
		{"\x88\x00" + zeros + "\x00", api.ErrForm},
		{"\x89\x00", api.ErrForm},
		{"\x89\x80\x00", api.ErrForm},
		{ones + "\x02", api.ErrForm},
		{ones + "\x80", api.ErrForm},
		{ones, api.ErrShort},
		{"\x09", api.ErrLimit},
		{"\x09" + zeros + "\x00\x00", api.ErrLimit},
		{"\x09\x06", api.ErrLimit},
		{"\x0a", api.ErrLimit},
		{"\x7f", api.ErrLimit},
		{"\x80\x01", api.ErrLimit},
		{"\x88\x01", api.ErrLimit},
		{ones + "\x01", api.ErrLimit},
		{"\x81\x80\x80\x80\x80\x80\x80\x80\x80\x01\x00", api.ErrLimit},
		// A kind.
		{"\x01\x06", api.ErrKind},
		{"\x01\x07\x00", api.ErrKind},
		{"\x01\x7f", api.ErrKind},
		{"\x01\x80", api.ErrKind},
		{"\x01\xff", api.ErrKind},
		{"\x02\x00\x06", api.ErrKind},
		{"\x03\x00\x06\x00", api.ErrKind},
		{"\x08" + zeros + "\x06", api.ErrKind},
		{"\x02\x06\x01\x02", api.ErrKind},
		// A truth.
		{"\x01\x01", api.ErrShort},
		{"\x01\x01\x02", api.ErrRange},
		{"\x01\x01\x7f", api.ErrRange},
		{"\x01\x01\x80", api.ErrRange},
		{"\x01\x01\xff", api.ErrRange},
		{"\x02\x01\x02\x06", api.ErrRange},
		{"\x02\x01\x02", api.ErrRange},
		{"\x01\x01\x02z", api.ErrRange},
		// A number.
		{"\x01\x02\x80", api.ErrShort},
		{"\x01\x02\x80\x00", api.ErrForm},
		{"\x01\x02" + ones + "\x02", api.ErrForm},
		{"\x02\x02\x80\x00\x06", api.ErrForm},
		// A real.
		{"\x01\x03" + zeros, api.ErrShort},
		{"\x01\x03\x7f\xf8\x00\x00\x00\x00\x00", api.ErrShort},
		{"\x01\x03\x7f\xf8\x00\x00\x00\x00\x00\x01", api.ErrForm},
		{"\x01\x03\x7f\xf0\x00\x00\x00\x00\x00\x01", api.ErrForm},
		{"\x01\x03\xff\xf8\x00\x00\x00\x00\x00\x00", api.ErrForm},
		{"\x01\x03" + ones[:8], api.ErrForm},
		{"\x02\x03" + ones[:8], api.ErrForm},
		{"\x02\x03" + ones[:8] + "\x06", api.ErrForm},
		// Bytes and texts.
		{"\x01\x04\x01", api.ErrShort},
		{"\x01\x04\x80\x00", api.ErrForm},
		{"\x01\x04\x81\x00a", api.ErrForm},
		{"\x01\x04\x41" + bytes64, api.ErrShort},
		{"\x01\x04\x41" + bytes64 + "a", api.ErrLimit},
		{"\x01\x04" + ones + "\x01", api.ErrShort},
		{"\x01\x04" + ones + "\x02", api.ErrForm},
		{"\x02\x04\x41" + bytes64 + "a", api.ErrLimit},
		{"\x02\x04\x41" + bytes64 + "a\x06", api.ErrLimit},
		{"\x01\x05\x41" + text64, api.ErrShort},
		{"\x01\x05\x41" + text64 + "a", api.ErrLimit},
		{"\x01\x05\x41" + bytes64 + "a", api.ErrLimit},
		{"\x01\x05\x41" + text64 + "aa", api.ErrLimit},
		{"\x01\x05\x01\xff", api.ErrText},
		{"\x01\x05\x01\xc3\xa4", api.ErrText},
		{"\x01\x05\x02\xc3", api.ErrShort},
		{"\x01\x05\x03\xed\xa0\x80", api.ErrText},
		{"\x02\x05\x01\xff", api.ErrText},
		{"\x02\x05\x01\xff\x06", api.ErrText},
		{"\x03\x00\x05\x01\xff\x01\x02", api.ErrText},
		// What is left.
		{"\x00\x00", api.ErrForm},
		{"\x00\x06", api.ErrForm},
		{"\x01\x00z", api.ErrForm},
		{"\x01\x05\x01az", api.ErrForm},
	} {
		wantReadError(t, c.s, c.err)
	}
}

// slowCount tells the number that s begins with, and what is behind, by the library.
func slowCount(s string) (uint64, string, api.Errno) {
	n, size := binary.Uvarint([]byte(s))
	switch {
	case size == 0 && len(s) < binary.MaxVarintLen64:
		return 0, "", api.ErrShort
	case size <= 0, size > 1 && s[size-1] == 0:
		return 0, "", api.ErrForm
	}
	return n, s[size:], api.OK
}

// slowValue tells the value that s begins with, and what is behind, as promise 6.1 says it.
func slowValue(s string) (v api.Value, rest string, err api.Errno) {
	if s == "" {
		return v, "", api.ErrShort
	}
	v.Kind, rest = int(s[0]), s[1:]
	var n uint64
	switch v.Kind {
	case api.KindNull:
	case api.KindBool:
		if rest == "" {
			return v, "", api.ErrShort
		}
		v.N, rest = int(rest[0]), rest[1:]
		if v.N > 1 {
			return v, "", api.ErrRange
		}
	case api.KindInt:
		if n, rest, err = slowCount(rest); err != api.OK {
			return v, "", err
		}
		v.N = int(n>>1) ^ -int(n&1)
	case api.KindReal:
		if len(rest) < 8 {
			return v, "", api.ErrShort
		}
		v.Bits, rest = binary.BigEndian.Uint64([]byte(rest[:8])), rest[8:]
	case api.KindBytes, api.KindText:
		if n, rest, err = slowCount(rest); err != api.OK {
			return v, "", err
		}
		if n > uint64(len(rest)) {
			return v, "", api.ErrShort
		}
		v.S, rest = rest[:n], rest[n:]
	default:
		return v, "", api.ErrKind
	}
	return v, rest, values.Check(v)
}

// slowRead tells what Read must, value by value.
func slowRead(s string) ([]api.Value, api.Errno) {
	count, s, err := slowCount(s)
	if err != api.OK {
		return nil, err
	}
	if count > 8 {
		return nil, api.ErrLimit
	}
	var l []api.Value
	for range count {
		var v api.Value
		if v, s, err = slowValue(s); err != api.OK {
			return nil, err
		}
		l = append(l, v)
	}
	if s != "" {
		return nil, api.ErrForm
	}
	return l, api.OK
}

// checkRead holds Read of s against slowRead, and what it read against Put: s is the one form of its row.
func checkRead(t *testing.T, s string) {
	t.Helper()
	want, wantErr := slowRead(s)
	l, err := rows.Read(s)
	if !slices.Equal(l, want) || err != wantErr {
		t.Fatalf("Read of %q: %v, %d, not %v, %d", s, l, err, want, wantErr)
	}
	if err != api.OK {
		return
	}
	if back, err := rows.Put(l); back != s || err != api.OK {
		t.Fatalf("Put of %v: %q, %d, not %q", l, back, err, s)
	}
}

func TestReadOfShortTexts(t *testing.T) {
	// Most bytes say what their neighbours say: those at the borders stand for them behind the first one.
	var telling []byte
	for b := range 256 {
		if b < 12 || b > 125 && b < 133 || b > 251 {
			telling = append(telling, byte(b))
		}
	}
	checkRead(t, "")
	for b := range 256 {
		checkReadOnward(t, string([]byte{byte(b)}), telling)
	}
}

// checkReadOnward checks s, and all texts of up to four bytes that begin with it and go on with these bytes.
func checkReadOnward(t *testing.T, s string, telling []byte) {
	t.Helper()
	checkRead(t, s)
	if len(s) == 4 {
		return
	}
	for _, b := range telling {
		checkReadOnward(t, s+string([]byte{b}), telling)
	}
}

func TestReadOfRowsWithAByteChanged(t *testing.T) {
	for _, c := range written {
		for at := range c.s {
			for b := range 256 {
				changed := []byte(c.s)
				changed[at] = byte(b)
				checkRead(t, string(changed))
			}
			checkRead(t, c.s[:at]+c.s[at+1:])
			checkRead(t, c.s[:at]+"\x00"+c.s[at:])
			checkRead(t, c.s[:at]+"\x80"+c.s[at:])
		}
	}
}

// anyRow tells a row of so many of the values of written, and of those that may not be, as chance has it.
func anyRow(chance *rand.Rand, count int, withRefused bool) []api.Value {
	var pool, l []api.Value
	for _, c := range written {
		pool = append(pool, c.l...)
	}
	for _, c := range sample.Refused() {
		if withRefused {
			pool = append(pool, c.Value)
		}
	}
	for range count {
		l = append(l, pool[chance.Intn(len(pool))])
	}
	return l
}

func TestRowsComeBackAsTheyWere(t *testing.T) {
	chance := rand.New(rand.NewSource(6))
	for n := range 2000 {
		l := anyRow(chance, n%(api.MaxCols+1), false)
		kept := slices.Clone(l)
		s, err := rows.Put(l)
		if err != api.OK {
			t.Fatalf("Put of %v: %d", l, err)
		}
		if back, err := rows.Read(s); !slices.Equal(back, l) || err != api.OK {
			t.Fatalf("Read of %q: %v, %d, not %v", s, back, err, l)
		}
		if !slices.Equal(kept, l) {
			t.Fatalf("Put changed %v to %v", kept, l)
		}
	}
}

// rising holds rows of which each is ahead of the next one.
var rising = [][]api.Value{
	nil,
	row(sample.Null()),
	row(sample.Null(), sample.Null()),
	row(sample.Null(), sample.Null(), sample.Int(-5)),
	row(sample.Null(), sample.Bool(0)),
	row(sample.Null(), sample.Text("z")),
	row(sample.Bool(0)),
	row(sample.Bool(1)),
	row(sample.Int(math.MinInt)),
	row(sample.Int(-1)),
	row(sample.Int(0), sample.Int(9), sample.Int(9)),
	row(sample.Int(1)),
	row(sample.Int(1), sample.Int(1), sample.Int(1)),
	row(sample.Int(1), sample.Int(1), sample.Int(2)),
	row(sample.Int(1), sample.Int(1), sample.Int(2), sample.Null()),
	row(sample.Int(1), sample.Int(2), sample.Int(1)),
	row(sample.Int(1), sample.Int(2), sample.Int(2)),
	row(sample.Int(2), sample.Int(1), sample.Int(1)),
	row(sample.Int(math.MaxInt)),
	row(sample.Real(sample.Sign | sample.Inf)),
	row(sample.Real(sample.Sign | sample.One)),
	row(sample.Real(sample.Sign), sample.Int(1)),
	row(sample.Real(0), sample.Int(0)),
	row(sample.Real(sample.Inf)),
	row(sample.Real(sample.TheNaN)),
	row(sample.Bytes("")),
	row(sample.Bytes(""), sample.Bytes("")),
	row(sample.Bytes("\x00")),
	row(sample.Bytes("a"), sample.Bytes("z")),
	row(sample.Bytes("aa")),
	row(sample.Bytes(bytes64)),
	row(sample.Text("")),
	row(sample.Text("Z"), sample.Int(2)),
	row(sample.Text("a"), sample.Int(1)),
	row(sample.Text(text64)),
	row(sample.Text("\xc3\xa4")),
}

func TestCmpAndSameOfRisingRows(t *testing.T) {
	for i, a := range rising {
		for j, b := range rising {
			want := 0
			if i < j {
				want = -1
			}
			if i > j {
				want = 1
			}
			if got := rows.Cmp(a, slices.Clone(b)); got != want {
				t.Errorf("Cmp of %v and %v: %d, not %d", a, b, got, want)
			}
			if got := rows.Same(a, slices.Clone(b)); got != (i == j) {
				t.Errorf("Same of %v and %v: %t", a, b, got)
			}
		}
	}
}

func TestRowsUnlikeAtOnePlaceAlone(t *testing.T) {
	for count := 1; count <= api.MaxCols; count++ {
		for place := range count {
			a, b := nulls(count), nulls(count)
			b[place] = sample.Bool(0)
			if rows.Same(a, b) || rows.Cmp(a, b) != -1 || rows.Cmp(b, a) != 1 {
				t.Errorf("%d values, unlike at %d: %t, %d, %d", count, place, rows.Same(a, b), rows.Cmp(a, b), rows.Cmp(b, a))
			}
			if !rows.Same(b, slices.Clone(b)) || rows.Cmp(b, slices.Clone(b)) != 0 {
				t.Errorf("%v and itself: %t, %d", b, rows.Same(b, b), rows.Cmp(b, b))
			}
		}
	}
}

func TestAnEmptyRowIsOneNilOrNot(t *testing.T) {
	empty := []api.Value{}
	if !rows.Same(nil, empty) || !rows.Same(empty, nil) || rows.Cmp(nil, empty) != 0 || rows.Cmp(empty, nil) != 0 {
		t.Error("nil and an empty list are not the same row")
	}
	if s, err := rows.Put(empty); s != "\x00" || err != api.OK {
		t.Errorf("Put of an empty list: %q, %d", s, err)
	}
	if l, err := rows.Pick(empty, []int{}); len(l) != 0 || err != api.OK {
		t.Errorf("Pick of no places of an empty list: %v, %d", l, err)
	}
}

// All NaNs stand at one place, but are not the same: what is behind them tells the order.
func TestNaNsAreAtOnePlaceAndNotTheSame(t *testing.T) {
	a, b := sample.Real(sample.TheNaN), sample.Real(sample.TheNaN+1)
	if rows.Same(row(a), row(b)) {
		t.Error("Same of two unlike NaNs")
	}
	for _, c := range []struct {
		a, b []api.Value
		want int
	}{
		{row(a), row(b), 0},
		{row(a, sample.Int(1)), row(b, sample.Int(2)), -1},
		{row(a, sample.Int(2)), row(b, sample.Int(1)), 1},
		{row(a), row(b, sample.Null()), -1},
		{row(b, sample.Null()), row(a), 1},
	} {
		if got := rows.Cmp(c.a, c.b); got != c.want {
			t.Errorf("Cmp of %v and %v: %d, not %d", c.a, c.b, got, c.want)
		}
	}
}

// Same and Cmp ask of no value whether it may be, and of no row how many it has.
func TestSameAndCmpOfWhateverRows(t *testing.T) {
	chance := rand.New(rand.NewSource(7))
	for n := range 20000 {
		a := anyRow(chance, n%12, true)
		b := slices.Clone(a[:chance.Intn(len(a)+1)])
		b = append(b, anyRow(chance, chance.Intn(3), true)...)
		if got := rows.Same(a, b); got != slices.Equal(a, b) {
			t.Fatalf("Same of %v and %v: %t", a, b, got)
		}
		if got, want := rows.Cmp(a, b), slices.CompareFunc(a, b, values.Cmp); got != want {
			t.Fatalf("Cmp of %v and %v: %d, not %d", a, b, got, want)
		}
	}
}

func TestPickTellsTheValuesAtThesePlaces(t *testing.T) {
	a, b, c := sample.Int(7), sample.Text("b"), sample.Null()
	long := row(a, b, c, a, b, c, a, b, c, sample.Bool(2))
	for _, p := range []struct {
		l    []api.Value
		at   []int
		want []api.Value
	}{
		{nil, nil, nil},
		{row(a), nil, nil},
		{row(a), []int{0}, row(a)},
		{row(a, b, c), []int{0}, row(a)},
		{row(a, b, c), []int{1}, row(b)},
		{row(a, b, c), []int{2}, row(c)},
		{row(a, b, c), []int{0, 1, 2}, row(a, b, c)},
		{row(a, b, c), []int{2, 1, 0}, row(c, b, a)},
		{row(a, b, c), []int{1, 1, 0}, row(b, b, a)},
		{row(a, b), []int{0, 1, 0, 1, 0, 1, 0, 1, 0, 1}, row(a, b, a, b, a, b, a, b, a, b)},
		{long, []int{9, 8}, row(sample.Bool(2), c)},
	} {
		if got, err := rows.Pick(p.l, p.at); !slices.Equal(got, p.want) || err != api.OK {
			t.Errorf("Pick of %v at %v: %v, %d, not %v", p.l, p.at, got, err, p.want)
		}
	}
}

func TestPickRefusesWhatIsNoPlace(t *testing.T) {
	for count := range api.MaxCols + 2 {
		for _, wrong := range []int{-1, count, count + 1, math.MinInt, math.MaxInt} {
			wantPickError(t, nulls(count), []int{wrong})
			if count > 0 {
				wantPickError(t, nulls(count), []int{wrong, 0, count - 1})
				wantPickError(t, nulls(count), []int{0, wrong, 0})
				wantPickError(t, nulls(count), []int{0, count - 1, wrong})
			}
		}
	}
}

// wantPickError tells that Pick tells ErrArg, and nothing beside it.
func wantPickError(t *testing.T, l []api.Value, at []int) {
	t.Helper()
	if got, err := rows.Pick(l, at); len(got) != 0 || err != api.ErrArg {
		t.Errorf("Pick of %d values at %v: %v, %d", len(l), at, got, err)
	}
}

func TestAnswersAreNewMemory(t *testing.T) {
	l := row(sample.Int(1), sample.Int(2))
	at := []int{0, 1}
	picked, _ := rows.Pick(l, at)
	picked[0] = sample.Int(9)
	if l[0] != sample.Int(1) || at[0] != 0 {
		t.Error("a write to what Pick told is seen in what it was given")
	}
	first, _ := rows.Read("\x01\x02\x02")
	first[0] = sample.Int(9)
	if again, _ := rows.Read("\x01\x02\x02"); again[0] != sample.Int(1) {
		t.Error("a write to what Read told is seen in what it tells next")
	}
}
