package schema_test

import (
	"encoding/binary"
	"math/rand"
	"strings"
	"testing"

	"transom/api"
	"transom/keycode"
	"transom/sample"
	"transom/schema"
)

// uint tells n's bytes, in the library's own words.
func uint(n uint64) string {
	return string(binary.AppendUvarint(nil, n))
}

// text tells s with its length ahead.
func text(s string) string {
	return uint(uint64(len(s))) + s
}

// raw tells the bytes that promise 9.3 says of t, whether it may be or not; its numbers must not be below 0, and its Defaults must be values that may be.
func raw(t api.Table) string {
	s := text(t.Name) + uint(uint64(t.Keys)) + uint(uint64(len(t.Cols)))
	for _, c := range t.Cols {
		null := "\x00"
		if c.Null {
			null = "\x01"
		}
		def, _ := keycode.Put(c.Default)
		s += text(c.Name) + uint(uint64(c.Kind)) + null + def
	}
	return s
}

// wantRead holds Read of s against a table and what is behind it.
func wantRead(t *testing.T, s string, want api.Table, behind string) {
	t.Helper()
	got, rest, err := schema.Read(s)
	if !alike(got, want) || rest != behind || err != api.OK {
		t.Errorf("Read(%q) = %+v, %q, %d, not %+v, %q", s, got, rest, err, want, behind)
	}
}

// wantRefused holds Read of s against an error: beside it there is no table and nothing behind.
func wantRefused(t *testing.T, s string, want api.Errno) {
	t.Helper()
	got, rest, err := schema.Read(s)
	if !none(got) || rest != "" || err != want {
		t.Errorf("Read(%q) = %+v, %q, %d, not %d", s, got, rest, err, want)
	}
}

// written holds tables, and the bytes that promise 9.3 says of them.
var written = []struct {
	t api.Table
	s string
}{
	{plain(), "\x01t\x01\x02" + "\x01k\x02\x00\x00" + "\x01v\x05\x01\x00"},
	{table("a", 1, with(col("b", api.KindBool), sample.Bool(1))), "\x01a\x01\x01" + "\x01b\x01\x00\x01\x01"},
	{each(), "\x0aevery_kind\x02\x05" +
		"\x05truth\x01\x00\x00" +
		"\x06number\x02\x00\x02\x7f\xff\xff\xff\xff\xff\xff\xf9" +
		"\x05ratio\x03\x01\x03\xbf\xf0\x00\x00\x00\x00\x00\x00" +
		"\x03raw\x04\x01\x04\x00\xff\xff\x00\x00" +
		"\x04said\x05\x00\x05\xc3\xa4\x00\x00"},
	{table(longest, 1, col(longest, api.KindText)), "\x10" + longest + "\x01\x01\x10" + longest + "\x05\x00\x00"},
	{ints(3, 8), "\x01t\x03\x08" +
		"\x02c0\x02\x00\x00\x02c1\x02\x00\x00\x02c2\x02\x00\x00\x02c3\x02\x00\x00" +
		"\x02c4\x02\x00\x00\x02c5\x02\x00\x00\x02c6\x02\x00\x00\x02c7\x02\x00\x00"},
}

func TestPut(t *testing.T) {
	for _, want := range written {
		if s, err := schema.Put(want.t); s != want.s || err != api.OK {
			t.Errorf("Put(%+v) = %q, %d, not %q", want.t, s, err, want.s)
		}
		wantRead(t, want.s, want.t, "")
	}
	for _, u := range good() {
		if s, err := schema.Put(u); s != raw(u) || err != api.OK {
			t.Errorf("Put(%+v) = %q, %d, not %q", u, s, err, raw(u))
		}
	}
}

func TestPutOfWhatIsNoTable(t *testing.T) {
	for _, no := range bad {
		if s, err := schema.Put(no.t); s != "" || err != no.err {
			t.Errorf("Put(%+v) = %q, %d, not %d", no.t, s, err, no.err)
		}
	}
	for _, wrong := range sample.Refused() {
		u := table("t", 1, col("k", api.KindInt), with(col("c", api.KindText), wrong.Value))
		if s, err := schema.Put(u); s != "" || err != wrong.Err {
			t.Errorf("Put(%+v) = %q, %d, not %d", u, s, err, wrong.Err)
		}
	}
	for _, n := range farOff {
		if s, err := schema.Put(ints(n, 8)); s != "" || err != api.ErrArg {
			t.Errorf("Put of %d Keys = %q, %d, not ErrArg", n, s, err)
		}
	}
}

// What is written is read as what it was, whatever stands behind it; and its beginnings are short.
func TestReadOfWhatPutWrote(t *testing.T) {
	for _, u := range good() {
		s, _ := schema.Put(u)
		for _, behind := range []string{"", "z", "\x00", "\x01", "\xff", s, strings.Repeat("\x80", 40)} {
			wantRead(t, s+behind, u, behind)
		}
		for size := range len(s) {
			wantRefused(t, s[:size], api.ErrShort)
		}
	}
}

// Bytes that no table has, and the error that is met first.
var unread = []struct {
	s   string
	err api.Errno
}{
	// Short.
	{"", api.ErrShort},
	{"\x02t", api.ErrShort},
	{"\x80", api.ErrShort},
	{"\xff\xff\xff\xff\xff\xff\xff\xff\xff\x01t", api.ErrShort},
	{"\x01t\x01\x08", api.ErrShort},

	// Numbers in more bytes than they need, and numbers that no 64 bits hold.
	{"\x81\x00t\x01\x01\x01k\x02\x00\x00", api.ErrForm},
	{"\x01t\x81\x00\x01\x01k\x02\x00\x00", api.ErrForm},
	{"\x01t\x01\x81\x00\x01k\x02\x00\x00", api.ErrForm},
	{"\x01t\x01\x01\x81\x00k\x02\x00\x00", api.ErrForm},
	{"\x01t\x01\x01\x01k\x82\x00\x00\x00", api.ErrForm},
	{"\x01t\x01\x01\x01k\x80\x00\x00\x00", api.ErrForm},
	{"\x01t\xff\xff\xff\xff\xff\xff\xff\xff\xff\x02", api.ErrForm},
	{"\x01t\x01\x01\x01k\xff\xff\xff\xff\xff\xff\xff\xff\xff\x02", api.ErrForm},

	// Keys and Kind at 100 and above it: what is 100 is read on, and refused by Check at last.
	{"\x01t\x64\x01\x01k\x02\x00\x00", api.ErrArg},
	{"\x01T\x64\x01\x01k\x02\x00\x00", api.ErrName},
	{"\x01t\x64\x00", api.ErrLimit},
	{"\x01t\x64\x09", api.ErrLimit},
	{"\x01t\x64", api.ErrShort},
	{"\x01t\x64\x01\x01k\x02\x02\x00", api.ErrForm},
	{"\x01t\x65", api.ErrArg},
	{"\x01T\x65\x01\x01k\x02\x00\x00", api.ErrArg},
	{"\x01t\x65\x00", api.ErrArg},
	{"\x01t\x65\x09", api.ErrArg},
	{"\x01t\x7f\x01", api.ErrArg},
	{"\x01t\x80\x01\x01", api.ErrArg},
	{"\x01t\x81\x02\x01\x01k\x02\x00\x00", api.ErrArg},                             // 257
	{"\x01t\x81\x80\x80\x80\x10\x01\x01k\x02\x00\x00", api.ErrArg},                 // 2^32 + 1
	{"\x01t\xff\xff\xff\xff\xff\xff\xff\xff\xff\x01\x01\x01k\x02\x00", api.ErrArg}, // 2^64 - 1
	{"\x01t\x80\x80\x80\x80\x80\x80\x80\x80\x80\x01\x01\x01k\x02\x00", api.ErrArg}, // 2^63
	{"\x01t\x01\x01\x01k\x64\x00\x00", api.ErrKind},
	{"\x01t\x02\x01\x01k\x64\x00\x00", api.ErrArg},
	{"\x01t\x01\x01\x01K\x64\x00\x00", api.ErrName},
	{"\x01t\x01\x01\x01k\x64", api.ErrShort},
	{"\x01t\x01\x01\x01k\x64\x02", api.ErrForm},
	{"\x01t\x01\x01\x01k\x65", api.ErrArg},
	{"\x01t\x01\x01\x01k\x65\x02", api.ErrArg},
	{"\x01T\x01\x01\x01K\x65\x00\x00", api.ErrArg},
	{"\x01t\x01\x02\x01k\x65\x00\x00\x01v\x06\x00\x00", api.ErrArg},
	{"\x01t\x01\x02\x01k\x06\x00\x00\x01v\x65\x00\x00", api.ErrArg},
	{"\x01t\x01\x01\x01k\x82\x02\x00\x00", api.ErrArg},                             // 258
	{"\x01t\x01\x01\x01k\x82\x80\x80\x80\x10\x00\x00", api.ErrArg},                 // 2^32 + 2
	{"\x01t\x01\x01\x01k\xff\xff\xff\xff\xff\xff\xff\xff\xff\x01\x00", api.ErrArg}, // 2^64 - 1

	// More columns than may be: told at once, whatever stands behind.
	{"\x01t\x01\x09", api.ErrLimit},
	{"\x01T\x01\x09", api.ErrLimit},
	{"\x01t\x00\x09\x80", api.ErrLimit},
	{"\x01t\x01\x7f", api.ErrLimit},
	{"\x01t\x01\x81\x02\x01k\x02\x00\x00", api.ErrLimit},
	{"\x01t\x01\xff\xff\xff\xff\xff\xff\xff\xff\xff\x01", api.ErrLimit},
	{raw(ints(1, 9)), api.ErrLimit},
	{"\x01t\x01\x00", api.ErrLimit},
	{"\x01t\x00\x00", api.ErrLimit},

	// The byte of Null.
	{"\x01t\x01\x01\x01k\x02", api.ErrShort},
	{"\x01t\x01\x01\x01k\x02\x02\x00", api.ErrForm},
	{"\x01t\x01\x01\x01k\x02\x02", api.ErrForm},
	{"\x01t\x01\x01\x01k\x02\x02\x06", api.ErrForm},
	{"\x01t\x01\x01\x01k\x02\x80\x00\x00", api.ErrForm},
	{"\x01t\x01\x01\x01k\x02\xff\x00", api.ErrForm},

	// A Default's bytes that are none.
	{"\x01t\x01\x01\x01k\x02\x00", api.ErrShort},
	{"\x01t\x01\x01\x01k\x02\x00\x06", api.ErrForm},
	{"\x01t\x01\x01\x01k\x02\x00\xff", api.ErrForm},
	{"\x01t\x01\x01\x01k\x02\x00\x01\x02", api.ErrForm},
	{"\x01t\x01\x01\x01k\x02\x00\x02\x80\x00\x00\x00\x00\x00\x00", api.ErrShort},
	{"\x01t\x01\x01\x01k\x05\x00\x05x\x00", api.ErrShort},
	{"\x01t\x01\x01\x01k\x05\x00\x05x\x00\x01", api.ErrForm},
	{"\x01t\x01\x01\x01k\x05\x00\x05\xff\x00\x00", api.ErrForm},
	{"\x01t\x01\x01\x01k\x05\x00\x05" + strings.Repeat("t", 65) + "\x00\x00", api.ErrForm},
	{"\x01t\x01\x01\x01k\x03\x00\x03\xff\xff\xff\xff\xff\xff\xff\xff", api.ErrForm},

	// Two faults at once, the first byte's ahead.
	{"\x01T\x01\x01\x01k\x02\x02\x00", api.ErrForm},
	{"\x01T\x01\x01\x01k\x02\x00", api.ErrShort},
	{"\x01t\x00\x01\x01k\x06\x00\x06", api.ErrForm},
	{"\x01t\x01\x02\x01k\x02\x02\x00\x01v\x65\x00\x00", api.ErrForm},
	{"\x01t\x01\x02\x01k\x02\x00\x06\x01v\x65\x00\x00", api.ErrForm},
	{"\x01t\x01\x02\x01k\x02\x00\x00\x01v\x65\x02\x00", api.ErrArg},
	{"\x01t\x01\x02\x01k\x02\x00\x00\x01v\x02\x02", api.ErrForm},
	{"\x01t\x01\x02\x01k\x06\x00\x00\x01v", api.ErrShort},
}

func TestReadOfBytesThatNoTableHas(t *testing.T) {
	for _, want := range unread {
		wantRefused(t, want.s, want.err)
	}
}

// Bytes that are in order, of what Check refuses: at last its error is told.
func TestReadOfWhatIsNoTable(t *testing.T) {
	for _, no := range bad {
		plainly := no.t.Keys >= 0 && len(no.t.Cols) <= api.MaxCols
		for _, c := range no.t.Cols {
			plainly = plainly && c.Kind >= 0 && c.Default.Kind <= api.KindText && (c.Default == api.Value{} || schema.CheckCol(with(col("c", c.Default.Kind), c.Default)) == api.OK)
		}
		if plainly {
			wantRefused(t, raw(no.t), no.err)
			wantRefused(t, raw(no.t)+"behind", no.err)
		}
	}
}

// Each number up to 300 as Keys, as the number of columns, and as a Kind.
func TestReadOfEachNumber(t *testing.T) {
	for n := range uint64(300) {
		keys, count, kind := api.OK, api.OK, api.OK
		if n != 1 {
			keys = api.ErrArg
		}
		if n > api.MaxCols || n == 0 {
			count = api.ErrLimit
		} else if n > 1 {
			count = api.ErrShort
		}
		if n > 100 {
			kind = api.ErrArg
		} else if n == 0 || n > 5 {
			kind = api.ErrKind
		}
		tail := "\x01k\x02\x00\x00"
		for s, want := range map[string]api.Errno{
			"\x01t" + uint(n) + "\x01" + tail:               keys,
			"\x01t\x01" + uint(n) + tail:                    count,
			"\x01t\x01\x01\x01k" + uint(n) + "\x00\x00":     kind,
			"\x01t\x01\x01\x01k" + uint(n) + "\x00\x00tail": kind,
		} {
			if _, _, err := schema.Read(s); err != want {
				t.Errorf("Read(%q) = %d, not %d", s, err, want)
			}
		}
	}
}

// Each byte as the byte of Null.
func TestReadOfEachByteOfNull(t *testing.T) {
	for b := range 256 {
		s := "\x01t\x01\x02\x01k\x02\x00\x00\x01v\x05" + string([]byte{byte(b)}) + "\x00z"
		switch b {
		case 0:
			wantRead(t, s, table("t", 1, col("k", api.KindInt), col("v", api.KindText)), "z")
		case 1:
			wantRead(t, s, plain(), "z")
		default:
			wantRefused(t, s, api.ErrForm)
		}
	}
}

// Bytes of a table with one changed, left out or put in: what is read of them is written as they were, or nothing is.
func TestReadOfChangedBytes(t *testing.T) {
	r := rand.New(rand.NewSource(93))
	all := good()
	read := 0
	for range 200000 {
		s, _ := schema.Put(all[r.Intn(len(all))])
		at, b := r.Intn(len(s)), string([]byte{byte(r.Intn(256))})
		if r.Intn(2) == 0 {
			b = string([]byte{byte(r.Intn(8))})
		}
		switch r.Intn(3) {
		case 0:
			s = s[:at] + b + s[at+1:]
		case 1:
			s = s[:at] + s[at+1:]
		case 2:
			s = s[:at] + b + s[at:]
		}
		u, rest, err := schema.Read(s)
		if err != api.OK {
			if !none(u) || rest != "" {
				t.Fatalf("Read(%q) = %+v, %q beside %d", s, u, rest, err)
			}
			continue
		}
		read++
		if again, err := schema.Put(u); again+rest != s || err != api.OK {
			t.Fatalf("Read(%q) = %+v, %q, whose Put is %q, %d", s, u, rest, again, err)
		}
	}
	if read < 10000 {
		t.Errorf("%d tables alone were read", read)
	}
}

// Tables of all kinds, faulty ones among them, as bytes and back.
func TestPutAndReadOfManyTables(t *testing.T) {
	r := rand.New(rand.NewSource(94))
	for range 100000 {
		u := anyTable(r)
		want := wantTable(u)
		s, err := schema.Put(u)
		if err != want {
			t.Fatalf("Put(%+v) = %d, not %d", u, err, want)
		}
		if want == api.OK {
			wantRead(t, s+"z", u, "z")
		} else if s != "" {
			t.Fatalf("Put(%+v) = %q beside %d", u, s, err)
		}
	}
}

// What Read tells are columns of its own, each time; and Put keeps nothing of what it was given.
func TestReadSharesNoMemory(t *testing.T) {
	u := each()
	s, _ := schema.Put(u)
	kept := strings.Clone(s)
	if !alike(u, each()) {
		t.Errorf("Put changed its table to %+v", u)
	}
	u.Cols[0].Name = "other"
	a, _, _ := schema.Read(s)
	a.Cols[0].Name, a.Cols[1].Default.S = "other", "other"
	_ = append(a.Cols[:1], a.Cols[2:]...)
	b, _, _ := schema.Read(s)
	if s != kept || !alike(b, each()) {
		t.Errorf("Read again = %+v of %q", b, s)
	}
}
