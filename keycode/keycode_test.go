package keycode_test

import (
	"cmp"
	"encoding/binary"
	"math"
	"slices"
	"strings"
	"testing"
	"unicode/utf8"

	"transom/api"
	"transom/keycode"
	"transom/sample"
	"transom/values"
)

// written holds values, and the bytes that promise 5.1 says of them, by rising values.
var written = []struct {
	v api.Value
	s string
}{
	{sample.Null(), "\x00"},
	{sample.Bool(0), "\x01\x00"},
	{sample.Bool(1), "\x01\x01"},
	{sample.Int(math.MinInt), "\x02\x00\x00\x00\x00\x00\x00\x00\x00"},
	{sample.Int(math.MinInt + 1), "\x02\x00\x00\x00\x00\x00\x00\x00\x01"},
	{sample.Int(-257), "\x02\x7f\xff\xff\xff\xff\xff\xfe\xff"},
	{sample.Int(-256), "\x02\x7f\xff\xff\xff\xff\xff\xff\x00"},
	{sample.Int(-1), "\x02\x7f\xff\xff\xff\xff\xff\xff\xff"},
	{sample.Int(0), "\x02\x80\x00\x00\x00\x00\x00\x00\x00"},
	{sample.Int(1), "\x02\x80\x00\x00\x00\x00\x00\x00\x01"},
	{sample.Int(255), "\x02\x80\x00\x00\x00\x00\x00\x00\xff"},
	{sample.Int(256), "\x02\x80\x00\x00\x00\x00\x00\x01\x00"},
	{sample.Int(0x0102030405060708), "\x02\x81\x02\x03\x04\x05\x06\x07\x08"},
	{sample.Int(math.MaxInt - 1), "\x02\xff\xff\xff\xff\xff\xff\xff\xfe"},
	{sample.Int(math.MaxInt), "\x02\xff\xff\xff\xff\xff\xff\xff\xff"},
	{sample.Real(sample.Sign | sample.Inf), "\x03\x00\x0f\xff\xff\xff\xff\xff\xff"},
	{sample.Real(sample.Sign | sample.Most), "\x03\x00\x10\x00\x00\x00\x00\x00\x00"},
	{sample.Real(sample.Sign | sample.One), "\x03\x40\x0f\xff\xff\xff\xff\xff\xff"},
	{sample.Real(sample.Sign | 1), "\x03\x7f\xff\xff\xff\xff\xff\xff\xfe"},
	{sample.Real(sample.Sign), "\x03\x7f\xff\xff\xff\xff\xff\xff\xff"},
	{sample.Real(0), "\x03\x80\x00\x00\x00\x00\x00\x00\x00"},
	{sample.Real(1), "\x03\x80\x00\x00\x00\x00\x00\x00\x01"},
	{sample.Real(sample.One), "\x03\xbf\xf0\x00\x00\x00\x00\x00\x00"},
	{sample.Real(sample.Most), "\x03\xff\xef\xff\xff\xff\xff\xff\xff"},
	{sample.Real(sample.Inf), "\x03\xff\xf0\x00\x00\x00\x00\x00\x00"},
	{sample.Real(sample.TheNaN), "\x03\xff\xf8\x00\x00\x00\x00\x00\x00"},
	{sample.Bytes(""), "\x04\x00\x00"},
	{sample.Bytes("\x00"), "\x04\x00\xff\x00\x00"},
	{sample.Bytes("\x00\x00"), "\x04\x00\xff\x00\xff\x00\x00"},
	{sample.Bytes("\x00\x00\x00"), "\x04\x00\xff\x00\xff\x00\xff\x00\x00"},
	{sample.Bytes("\x00\x00\x01"), "\x04\x00\xff\x00\xff\x01\x00\x00"},
	{sample.Bytes("\x00\x01"), "\x04\x00\xff\x01\x00\x00"},
	{sample.Bytes("\x00\xff"), "\x04\x00\xff\xff\x00\x00"},
	{sample.Bytes("\x00\xff\x00"), "\x04\x00\xff\xff\x00\xff\x00\x00"},
	{sample.Bytes("\x00\xff\xff"), "\x04\x00\xff\xff\xff\x00\x00"},
	{sample.Bytes("\x01"), "\x04\x01\x00\x00"},
	{sample.Bytes("\x01\x00"), "\x04\x01\x00\xff\x00\x00"},
	{sample.Bytes("a"), "\x04a\x00\x00"},
	{sample.Bytes("a\x00b"), "\x04a\x00\xffb\x00\x00"},
	{sample.Bytes("ab"), "\x04ab\x00\x00"},
	{sample.Bytes("\x80"), "\x04\x80\x00\x00"},
	{sample.Bytes("\xff"), "\x04\xff\x00\x00"},
	{sample.Bytes("\xff\x00"), "\x04\xff\x00\xff\x00\x00"},
	{sample.Bytes("\xff\xff"), "\x04\xff\xff\x00\x00"},
	{sample.Bytes(strings.Repeat("\xff", 64)), "\x04" + strings.Repeat("\xff", 64) + "\x00\x00"},
	{sample.Text(""), "\x05\x00\x00"},
	{sample.Text("\x00"), "\x05\x00\xff\x00\x00"},
	{sample.Text("\x00\x00"), "\x05\x00\xff\x00\xff\x00\x00"},
	{sample.Text(strings.Repeat("\x00", 64)), "\x05" + strings.Repeat("\x00\xff", 64) + "\x00\x00"},
	{sample.Text("a"), "\x05a\x00\x00"},
	{sample.Text("a\x00"), "\x05a\x00\xff\x00\x00"},
	{sample.Text("a\x01"), "\x05a\x01\x00\x00"},
	{sample.Text("b"), "\x05b\x00\x00"},
	{sample.Text(strings.Repeat("x", 63)), "\x05" + strings.Repeat("x", 63) + "\x00\x00"},
	{sample.Text(strings.Repeat("x", 64)), "\x05" + strings.Repeat("x", 64) + "\x00\x00"},
	{sample.Text("\xc3\xa4"), "\x05\xc3\xa4\x00\x00"},
	{sample.Text("\xf4\x8f\xbf\xbf"), "\x05\xf4\x8f\xbf\xbf\x00\x00"},
}

// all tells the values of written.
func all() []api.Value {
	var vs []api.Value
	for _, w := range written {
		vs = append(vs, w.v)
	}
	return vs
}

// putOf tells the bytes of promise 5.1 of a value that may be, by the library's means.
func putOf(v api.Value) string {
	s := string([]byte{byte(v.Kind)})
	switch v.Kind {
	case api.KindBool:
		return s + string([]byte{byte(v.N)})
	case api.KindInt:
		return s + string(binary.BigEndian.AppendUint64(nil, uint64(v.N)+sample.Sign))
	case api.KindReal:
		key := v.Bits + sample.Sign
		if v.Bits >= sample.Sign {
			key = math.MaxUint64 - v.Bits
		}
		return s + string(binary.BigEndian.AppendUint64(nil, key))
	case api.KindBytes, api.KindText:
		return s + strings.ReplaceAll(v.S, "\x00", "\x00\xff") + "\x00\x00"
	}
	return s
}

// bytesOf tells what promise 5.1 says of s, which stands behind the Kind of bytes: the bytes, what is behind, the error.
func bytesOf(s string) (string, string, api.Errno) {
	if s == "" || s == "\x00" {
		return "", "", api.ErrShort
	}
	first, behind := s[:1], s[1:]
	if first == "\x00" {
		switch s[1] {
		case 0:
			return "", s[2:], api.OK
		case 255:
			behind = s[2:]
		default:
			return "", "", api.ErrForm
		}
	}
	more, rest, err := bytesOf(behind)
	if err != api.OK {
		return "", "", err
	}
	return first + more, rest, api.OK
}

// readOf tells what promise 5.1 says of s, written down as it stands there.
func readOf(s string) (api.Value, string, api.Errno) {
	fail := func(err api.Errno) (api.Value, string, api.Errno) { return api.Value{}, "", err }
	if s == "" {
		return fail(api.ErrShort)
	}
	if s[0] > 5 {
		return fail(api.ErrForm)
	}
	v, rest := api.Value{Kind: int(s[0])}, s[1:]
	switch v.Kind {
	case api.KindBool:
		if len(rest) < 1 {
			return fail(api.ErrShort)
		}
		if rest[0] > 1 {
			return fail(api.ErrForm)
		}
		v.N, rest = int(rest[0]), rest[1:]
	case api.KindInt:
		if len(rest) < 8 {
			return fail(api.ErrShort)
		}
		v.N, rest = int(binary.BigEndian.Uint64([]byte(rest))-sample.Sign), rest[8:]
	case api.KindReal:
		if len(rest) < 8 {
			return fail(api.ErrShort)
		}
		key := binary.BigEndian.Uint64([]byte(rest))
		v.Bits, rest = key-sample.Sign, rest[8:]
		if key < sample.Sign {
			v.Bits = math.MaxUint64 - key
		}
		if math.IsNaN(math.Float64frombits(v.Bits)) && v.Bits != sample.TheNaN {
			return fail(api.ErrForm)
		}
	case api.KindBytes, api.KindText:
		var err api.Errno
		if v.S, rest, err = bytesOf(rest); err != api.OK {
			return fail(err)
		}
		if len(v.S) > 64 || v.Kind == api.KindText && !utf8.ValidString(v.S) {
			return fail(api.ErrForm)
		}
	}
	return v, rest, api.OK
}

func wantRead(t *testing.T, s string, v api.Value, rest string, err api.Errno) {
	t.Helper()
	gotV, gotRest, gotErr := keycode.Read(s)
	if gotV != v || gotRest != rest || gotErr != err {
		t.Errorf("Read(%q) = %+v, %q, %d, want %+v, %q, %d", s, gotV, gotRest, gotErr, v, rest, err)
	}
}

// wantReadError asks for that error, of Read and of ReadRow alike, with nothing beside it.
func wantReadError(t *testing.T, s string, err api.Errno) {
	t.Helper()
	wantRead(t, s, api.Value{}, "", err)
	if got, gotErr := keycode.ReadRow(s); len(got) != 0 || gotErr != err {
		t.Errorf("ReadRow(%q) = %+v, %d, want error %d", s, got, gotErr, err)
	}
}

func TestExamples(t *testing.T) {
	if got, err := keycode.Put(sample.Bytes("\x00\x01")); got != string([]byte{4, 0, 255, 1, 0, 0}) || err != api.OK {
		t.Errorf("Put of bytes 0 1 = %q, %d", got, err)
	}
	if got := keycode.After("\x01\xff"); got != "\x02" {
		t.Errorf("After of 1 255 = %q", got)
	}
}

func TestPut(t *testing.T) {
	for _, w := range written {
		if got, err := keycode.Put(w.v); got != w.s || err != api.OK {
			t.Errorf("Put(%+v) = %q, %d, want %q", w.v, got, err, w.s)
		}
		if got := putOf(w.v); got != w.s {
			t.Errorf("the tests' own putOf(%+v) = %q, want %q", w.v, got, w.s)
		}
	}
}

func TestPutOfEachByte(t *testing.T) {
	for b := range 256 {
		for _, s := range []string{string([]byte{byte(b)}), string([]byte{byte(b), byte(b)}), string([]byte{0, byte(b), 255}), string([]byte{255, byte(b), 0})} {
			v := sample.Bytes(s)
			want := putOf(v)
			if got, err := keycode.Put(v); got != want || err != api.OK {
				t.Errorf("Put(%+v) = %q, %d, want %q", v, got, err, want)
			}
			wantRead(t, want+s, v, s, api.OK)
		}
	}
}

// Each bit of a number has its place, of ints and of reals.
func TestPutOfEachBit(t *testing.T) {
	for at := range 64 {
		bit := uint64(1) << at
		for _, v := range []api.Value{sample.Int(int(bit)), sample.Int(int(^bit)), sample.Int(int(bit - 1)), sample.Real(bit), sample.Real(bit | sample.Sign), sample.Real(sample.One ^ bit)} {
			if values.Check(v) != api.OK {
				continue
			}
			want := putOf(v)
			if got, err := keycode.Put(v); got != want || err != api.OK {
				t.Errorf("Put(%+v) = %q, %d, want %q", v, got, err, want)
			}
			wantRead(t, want, v, "", api.OK)
		}
	}
}

func TestPutOfRefused(t *testing.T) {
	for _, c := range sample.Refused() {
		if got, err := keycode.Put(c.Value); got != "" || err != c.Err {
			t.Errorf("Put(%+v) = %q, %d, want error %d", c.Value, got, err, c.Err)
		}
	}
}

func TestReadOfWritten(t *testing.T) {
	for _, w := range written {
		for _, rest := range []string{"", "z", "\x00", "\x00\x00", "\xff", "\xff\x00\x00", "\x01", "\x04\x00", w.s, strings.Repeat("r", 100)} {
			wantRead(t, w.s+rest, w.v, rest, api.OK)
		}
	}
}

// Each written s that is cut off behind one of its bytes, or ahead of all, is too short.
func TestReadOfCutOff(t *testing.T) {
	for _, w := range written {
		for size := range len(w.s) {
			s := w.s[:size]
			wantRead(t, s, api.Value{}, "", api.ErrShort)
			_, err := keycode.ReadRow(s)
			want := api.ErrShort
			if s == "" {
				want = api.OK
			}
			if err != want {
				t.Errorf("ReadRow(%q): error %d, want %d", s, err, want)
			}
		}
	}
}

func TestReadOfStrangeKinds(t *testing.T) {
	for kind := 6; kind < 256; kind++ {
		s := string([]byte{byte(kind)})
		for _, behind := range []string{"", "\x00", "\x00\x00", "\x01", "\x80\x00\x00\x00\x00\x00\x00\x00", "a\x00\x00", "\x00\x01"} {
			wantReadError(t, s+behind, api.ErrForm)
		}
	}
}

func TestReadOfTruths(t *testing.T) {
	wantRead(t, "\x01\x00", sample.Bool(0), "", api.OK)
	wantRead(t, "\x01\x01", sample.Bool(1), "", api.OK)
	for b := 2; b < 256; b++ {
		wantReadError(t, string([]byte{1, byte(b)}), api.ErrForm)
		wantReadError(t, string([]byte{1, byte(b), 0, 0, 0}), api.ErrForm)
	}
}

// Keys that are no real's: each is one of a NaN that does not stand for all.
func TestReadOfKeysOfNoReal(t *testing.T) {
	for _, key := range []uint64{
		0, 1, 1 << 51, 1<<52 - 2,
		sample.Sign | sample.Inf | 1, sample.Sign | sample.TheNaN - 1, sample.Sign | sample.TheNaN + 1, math.MaxUint64 - 1, math.MaxUint64,
		^uint64(sample.Inf | 1 | sample.Sign), ^uint64(sample.TheNaN | sample.Sign),
	} {
		wantReadError(t, "\x03"+string(binary.BigEndian.AppendUint64(nil, key)), api.ErrForm)
	}
	// A NaN's own bits, as if nothing were turned, are the key of a number.
	wantRead(t, "\x03"+string(binary.BigEndian.AppendUint64(nil, sample.TheNaN)), sample.Real(^uint64(sample.TheNaN)), "", api.OK)
}

func TestReadOfStrangeZeros(t *testing.T) {
	for b := 1; b < 255; b++ {
		strange := string([]byte{0, byte(b)})
		for _, kind := range []string{"\x04", "\x05"} {
			for _, ahead := range []string{"", "a", "\x00\xff", "a\x00\xffb", strings.Repeat("x", 64), strings.Repeat("x", 65)} {
				wantReadError(t, kind+ahead+strange+"\x00\x00", api.ErrForm)
				// It is met ahead of the place where s ends too early.
				wantReadError(t, kind+ahead+strange, api.ErrForm)
				wantReadError(t, kind+ahead+strange+"z", api.ErrForm)
				wantReadError(t, kind+ahead+strange+"\x00", api.ErrForm)
			}
		}
	}
}

func TestReadOfZerosAtTheEnd(t *testing.T) {
	for _, kind := range []string{"\x04", "\x05"} {
		for _, s := range []string{"", "\x00", "a", "a\x00", "\x00\xff", "\x00\xff\x00", "\x00\xff\x00\xff", "\xff", "\xff\x00", "ab", strings.Repeat("x", 65), strings.Repeat("x", 65) + "\x00"} {
			wantReadError(t, kind+s, api.ErrShort)
		}
		// Where s ends too early, that is told ahead of a text that is none.
		wantReadError(t, kind+"\xff\x00", api.ErrShort)
		wantReadError(t, kind+"\xc3", api.ErrShort)
	}
}

func TestReadOfSizes(t *testing.T) {
	for _, c := range []struct {
		size int
		want api.Errno
	}{
		{0, api.OK}, {1, api.OK}, {63, api.OK}, {64, api.OK}, {65, api.ErrForm}, {66, api.ErrForm}, {128, api.ErrForm}, {1 << 16, api.ErrForm},
	} {
		for _, kind := range []int{api.KindBytes, api.KindText} {
			for _, b := range []string{"x", "\x00"} {
				v := api.Value{Kind: kind, S: strings.Repeat(b, c.size)}
				s := putOf(v)
				if c.want == api.OK {
					wantRead(t, s+"rest", v, "rest", api.OK)
				} else {
					wantReadError(t, s, c.want)
					wantReadError(t, s+"rest", c.want)
				}
			}
		}
	}
}

func TestReadOfTextsThatAreNone(t *testing.T) {
	for _, s := range []string{"\xff", "\x80", "\xc3", "a\xff", "\xc0\x80", "\xed\xa0\x80", "\xf4\x90\x80\x80", "\x00\xff", strings.Repeat("t", 63) + "\xc3"} {
		wantReadError(t, putOf(sample.Text(s)), api.ErrForm)
		wantRead(t, putOf(sample.Bytes(s)), sample.Bytes(s), "", api.OK)
	}
}

// All texts of few bytes that matter, held against the promise's words; and what is read is what s begins with.
func TestReadOfShortTexts(t *testing.T) {
	letters := []byte{0, 1, 2, 3, 4, 5, 6, 'a', 0xc3, 0xa4, 254, 255}
	var visit func(s []byte, left int)
	visit = func(s []byte, left int) {
		v, rest, err := readOf(string(s))
		wantRead(t, string(s), v, rest, err)
		if got, gotRest, gotErr := keycode.Read(string(s)); gotErr == api.OK {
			if back, putErr := keycode.Put(got); putErr != api.OK || back+gotRest != string(s) {
				t.Errorf("Read(%q) = %+v, %q, but Put tells %q, %d", s, got, gotRest, back, putErr)
			}
		}
		if left == 0 || t.Failed() {
			return
		}
		for _, b := range letters {
			visit(append(slices.Clone(s), b), left-1)
		}
	}
	visit(nil, 5)
}

// Eight bytes of a number, drawn from few, held against the promise's words.
func TestReadOfNumbers(t *testing.T) {
	heads := []string{"", "\x00", "\x00\x0f", "\x00\x10", "\x00\x07\xff", "\x00\x08", "\x7f\xff", "\x80", "\x80\x00", "\xff", "\xff\xef", "\xff\xf0", "\xff\xf7\xff", "\xff\xf8"}
	for _, kind := range []string{"\x02", "\x03"} {
		for _, head := range heads {
			for _, fill := range []string{"\x00", "\x01", "\x7f", "\x80", "\xff"} {
				for _, last := range []string{"", "\x00", "\x01", "\xfe", "\xff"} {
					for size := range 11 {
						s := head + strings.Repeat(fill, max(0, size-len(head)-len(last))) + last
						v, rest, err := readOf(kind + s)
						wantRead(t, kind+s, v, rest, err)
					}
				}
			}
		}
	}
}

// rows tells rows of values that may be: the empty one, each value alone, and some of two to four.
func rows() [][]api.Value {
	vs := all()
	out := [][]api.Value{nil}
	for i, v := range vs {
		out = append(out, []api.Value{v})
		for step := range 12 {
			next := vs[(i*7+step*5+3)%len(vs)]
			last := vs[(i*11+step*3+1)%len(vs)]
			out = append(out, []api.Value{v, next}, []api.Value{v, next, last}, []api.Value{v, v, last, next})
		}
	}
	return out
}

func TestRow(t *testing.T) {
	for _, l := range rows() {
		want := ""
		for _, v := range l {
			want += putOf(v)
		}
		kept := slices.Clone(l)
		if got, err := keycode.Row(l); got != want || err != api.OK {
			t.Errorf("Row(%+v) = %q, %d, want %q", l, got, err, want)
		}
		if !slices.Equal(l, kept) {
			t.Errorf("Row changed %+v to %+v", kept, l)
		}
		if got, err := keycode.ReadRow(want); !slices.Equal(got, l) || err != api.OK {
			t.Errorf("ReadRow(%q) = %+v, %d, want %+v", want, got, err, l)
		}
	}
}

func TestRowOfNothing(t *testing.T) {
	for _, l := range [][]api.Value{nil, {}} {
		if got, err := keycode.Row(l); got != "" || err != api.OK {
			t.Errorf("Row(%+v) = %q, %d", l, got, err)
		}
	}
	if got, err := keycode.ReadRow(""); len(got) != 0 || err != api.OK {
		t.Errorf("ReadRow of nothing = %+v, %d", got, err)
	}
}

func TestRowOfMany(t *testing.T) {
	var l []api.Value
	for range 200 {
		l = append(l, all()...)
	}
	s, err := keycode.Row(l)
	if err != api.OK {
		t.Fatalf("Row of %d values: error %d", len(l), err)
	}
	if got, err := keycode.ReadRow(s); !slices.Equal(got, l) || err != api.OK {
		t.Errorf("ReadRow of %d values tells %d, %d", len(l), len(got), err)
	}
}

// A value that may not be, first, in the middle, last and alone; and of two such the first one's error.
func TestRowOfRefused(t *testing.T) {
	wantRowError := func(want api.Errno, l ...api.Value) {
		t.Helper()
		if got, err := keycode.Row(l); got != "" || err != want {
			t.Errorf("Row(%+v) = %q, %d, want error %d", l, got, err, want)
		}
	}
	for _, c := range sample.Refused() {
		wantRowError(c.Err, c.Value)
		wantRowError(c.Err, c.Value, sample.Int(1), sample.Text("a"))
		wantRowError(c.Err, sample.Int(1), c.Value, sample.Text("a"))
		wantRowError(c.Err, sample.Int(1), sample.Text("a"), c.Value)
		for _, d := range sample.Refused() {
			wantRowError(c.Err, c.Value, d.Value)
			wantRowError(c.Err, sample.Null(), c.Value, sample.Bool(1), d.Value)
		}
	}
}

// Bytes that are no value's, first, in the middle, last; and of two such the first one's error.
func TestReadRowOfStrangeBytes(t *testing.T) {
	wantRowError := func(s string, want api.Errno) {
		t.Helper()
		if got, err := keycode.ReadRow(s); len(got) != 0 || err != want {
			t.Errorf("ReadRow(%q) = %+v, %d, want error %d", s, got, err, want)
		}
	}
	a, b := putOf(sample.Int(7)), putOf(sample.Text("b\x00"))
	for _, strange := range []string{
		"\x06", "\xff", "\x01\x02", "\x04\x00\x01", "\x05a\x00\xfe\x00\x00", "\x05\xff\x00\x00",
		"\x03" + strings.Repeat("\xff", 8), putOf(sample.Bytes(strings.Repeat("o", 65))),
	} {
		wantRowError(strange+a+b, api.ErrForm)
		wantRowError(a+strange+b, api.ErrForm)
		wantRowError(a+b+strange, api.ErrForm)
		wantRowError(a+strange+"\x02", api.ErrForm)
	}
	for size := range len(b) - 1 {
		wantRowError(a+b[:size+1], api.ErrShort)
		wantRowError(b+a+b[:size+1], api.ErrShort)
	}
	for size := range len(a) - 1 {
		wantRowError(a[:size+1], api.ErrShort)
		wantRowError(b+a[:size+1], api.ErrShort)
	}
}

func TestAfter(t *testing.T) {
	for _, c := range []struct{ s, want string }{
		{"", ""},
		{"\xff", ""},
		{"\xff\xff", ""},
		{strings.Repeat("\xff", 100), ""},
		{"\x00", "\x01"},
		{"\x01", "\x02"},
		{"\xfe", "\xff"},
		{"\x7f", "\x80"},
		{"\x80", "\x81"},
		{"\xc3\xa4", "\xc3\xa5"},
		{"\xef\xbf\xbd", "\xef\xbf\xbe"},
		{"\x00\x00", "\x00\x01"},
		{"\x00\xff", "\x01"},
		{"\x00\xff\xff", "\x01"},
		{"\x01\xff", "\x02"},
		{"\xfe\xff", "\xff"},
		{"\xff\x00", "\xff\x01"},
		{"\xff\xfe", "\xff\xff"},
		{"\xff\xfe\xff", "\xff\xff"},
		{"\xff\x80\xff", "\xff\x81"},
		{"a\xff\xffb", "a\xff\xffc"},
		{"a\xff\xffb\xff\xff", "a\xff\xffc"},
		{"ab", "ac"},
		{"a\x00", "a\x01"},
	} {
		if got := keycode.After(c.s); got != c.want {
			t.Errorf("After(%q) = %q, want %q", c.s, got, c.want)
		}
	}
}

// After held against its own words: of all short texts, which are greater than all that begin with s, the least one.
func TestAfterIsTheLeast(t *testing.T) {
	letters := []byte{0, 1, 2, 127, 128, 129, 253, 254, 255}
	texts := []string{""}
	for at := 0; at < len(texts); at++ {
		if len(texts[at]) == 3 {
			break
		}
		for _, b := range letters {
			texts = append(texts, texts[at]+string([]byte{b}))
		}
	}
	slices.Sort(texts)
	for _, s := range texts {
		after := keycode.After(s)
		if onlyTop := strings.Count(s, "\xff") == len(s); (after == "") != onlyTop {
			t.Errorf("After(%q) = %q", s, after)
		}
		if after == "" {
			continue
		}
		for _, u := range texts {
			begins := strings.HasPrefix(u, s)
			if begins && u >= after || !begins && u > s && u < after {
				t.Errorf("After(%q) = %q, but there is %q", s, after, u)
			}
		}
		if strings.HasPrefix(after, s) || after < s+strings.Repeat("\xff", 8) {
			t.Errorf("After(%q) = %q is not greater than all that begin so", s, after)
		}
		// Nothing shorter, and nothing with a lower last byte, would do.
		last := len(after) - 1
		if lower := after[:last]; lower >= s+"\xff\xff\xff\xff" {
			t.Errorf("After(%q) = %q, but %q would do", s, after, lower)
		}
		if lower := after[:last] + string([]byte{after[last] - 1, 255, 255, 255, 255}); lower > s+strings.Repeat("\xff", 8) {
			t.Errorf("After(%q) = %q, but %q would do", s, after, lower)
		}
	}
}

// Promise 5.3 of values: the bytes stand in the values' order, and none begins with another's.
func TestOrderOfValues(t *testing.T) {
	for i, a := range written {
		for j, b := range written {
			x, _ := keycode.Put(a.v)
			y, _ := keycode.Put(b.v)
			if got, want := strings.Compare(x, y), cmp.Compare(i, j); got != want || values.Cmp(a.v, b.v) != want {
				t.Errorf("%+v and %+v stand as %d, their bytes as %d, want %d", a.v, b.v, values.Cmp(a.v, b.v), got, want)
			}
			if i != j && strings.HasPrefix(x, y) {
				t.Errorf("the bytes of %+v, %q, begin with those of %+v, %q", a.v, x, b.v, y)
			}
		}
	}
}

// All bytes of up to four that matter, one behind the other.
func TestOrderOfBytes(t *testing.T) {
	texts := []string{""}
	for at := 0; len(texts[at]) < 4; at++ {
		for _, b := range []string{"\x00", "\x01", "\xfe", "\xff"} {
			texts = append(texts, texts[at]+b)
		}
	}
	slices.Sort(texts)
	before := ""
	for _, s := range texts {
		got, err := keycode.Put(sample.Bytes(s))
		if err != api.OK || got <= before {
			t.Errorf("Put of bytes %q = %q, %d, behind %q", s, got, err, before)
		}
		// In rising order a beginning would stand straight ahead of one that begins with it.
		if before != "" && strings.HasPrefix(got, before) {
			t.Errorf("Put of bytes %q = %q begins with %q", s, got, before)
		}
		before = got
	}
}

// Promise 5.3 of rows: their bytes stand in their values' order, a shorter row ahead of those that begin with it, and a
// row's bytes begin with another's only if its values do.
func TestOrderOfRows(t *testing.T) {
	all := rows()
	keys := make([]string, len(all))
	for i, l := range all {
		keys[i], _ = keycode.Row(l)
	}
	for i, a := range all {
		for j, b := range all {
			if got, want := strings.Compare(keys[i], keys[j]), slices.CompareFunc(a, b, values.Cmp); got != want {
				t.Fatalf("rows %+v and %+v stand as %d, their bytes as %d", a, b, want, got)
			}
			if len(b) <= len(a) {
				if got, want := strings.HasPrefix(keys[i], keys[j]), slices.Equal(a[:len(b)], b); got != want {
					t.Fatalf("whether the bytes of %+v begin with those of %+v: %t", a, b, got)
				}
			} else if strings.HasPrefix(keys[i], keys[j]) {
				t.Fatalf("the bytes of %+v begin with those of %+v", a, b)
			}
		}
	}
}

// After a row's bytes all rows that begin with it are left behind, and no other one greater than it is.
func TestAfterOfRows(t *testing.T) {
	vs := all()
	for _, a := range vs {
		key, _ := keycode.Row([]api.Value{a})
		after := keycode.After(key)
		for _, b := range vs {
			more, _ := keycode.Row([]api.Value{b, sample.Int(math.MaxInt)})
			if got, want := more < after, values.Cmp(b, a) <= 0; got != want {
				t.Errorf("whether a row that begins with %+v is ahead of all behind %+v: %t", b, a, got)
			}
		}
	}
}
