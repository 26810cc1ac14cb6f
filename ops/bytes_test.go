package ops_test

import (
	"slices"
	"strings"
	"testing"

	"transom/api"
	"transom/sample"
)

// wrong is bytes that stand where others must, and the error that is met there: late, if it is told at last.
type wrong struct {
	s    string
	err  api.Errno
	late bool
}

// noNumbers tells bytes that no number has, or one above what an int holds.
func noNumbers() []wrong {
	return []wrong{
		{"\x80\x00", api.ErrForm, false},
		{"\x81\x00", api.ErrForm, false},
		{"\x86\x80\x00", api.ErrForm, false},
		{"\xff\xff\xff\xff\xff\xff\xff\xff\xff\x02", api.ErrForm, false},
		{"\x80\x80\x80\x80\x80\x80\x80\x80\x80\x81\x00", api.ErrForm, false},
	}
}

// wrongNumbers tells bytes that are no number, and numbers that may not be: those given, and great ones, of which some end with a byte that may be.
func wrongNumbers(no ...int) []wrong {
	l := noNumbers()
	for _, n := range append(no, 127, 128, 129, 255, 256, 257, 262, 300, 1<<32, 1<<32+1, 1<<32+6, api.MaxInt) {
		l = append(l, wrong{uint(n), api.ErrArg, false})
	}
	return append(l, wrong{"\x80\x80\x80\x80\x80\x80\x80\x80\x80\x01", api.ErrArg, false}, // 2^63
		wrong{"\x81\x80\x80\x80\x80\x80\x80\x80\x80\x01", api.ErrArg, false}, // 2^63 + 1
		wrong{"\xff\xff\xff\xff\xff\xff\xff\xff\xff\x01", api.ErrArg, false}) // 2^64 - 1
}

// wrongTexts tells bytes that are no text, texts of which not all is there, and texts that are too long for a name: these are told at last.
func wrongTexts() []wrong {
	return append(noNumbers(),
		wrong{"\xff\xff\xff\xff\xff\xff\xff\xff\xff\x01t", api.ErrShort, false},
		wrong{"\x80\x80\x80\x80\x80\x80\x80\x80\x80\x01t", api.ErrShort, false},
		wrong{packed(tooLong), api.ErrForm, true},
		wrong{packed(strings.Repeat("t", 127)), api.ErrForm, true},
		wrong{packed(strings.Repeat("\xff", 300)), api.ErrForm, true})
}

// wrongRows tells texts that are no row's bytes.
func wrongRows() []wrong {
	l := append(noNumbers(), wrong{"\xff\xff\xff\xff\xff\xff\xff\xff\xff\x01\x00", api.ErrShort, false})
	for s, err := range map[string]api.Errno{
		"":                                     api.ErrShort,
		"\x01":                                 api.ErrShort,
		"\x02\x00":                             api.ErrShort,
		"\x01\x02":                             api.ErrShort,
		"\x01\x05\x02a":                        api.ErrShort,
		"\x80":                                 api.ErrShort,
		"\x80\x00":                             api.ErrForm,
		"\x81\x00\x00":                         api.ErrForm,
		"\x01\x02\x80\x00":                     api.ErrForm,
		"\x00\x00":                             api.ErrForm,
		"\x01\x00\x00":                         api.ErrForm,
		"\x09" + strings.Repeat("\x00", 9):     api.ErrLimit,
		"\x81\x02\x00":                         api.ErrLimit,
		"\x01\x06":                             api.ErrKind,
		"\x01\xff":                             api.ErrKind,
		"\x01\x01\x02":                         api.ErrRange,
		"\x01\x03\xff\xff\xff\xff\xff\xff\xff": api.ErrShort,
		"\x01\x03\xff\xff\xff\xff\xff\xff\xff\xff":     api.ErrForm,
		"\x01\x04\x41" + strings.Repeat("\x00", 65):    api.ErrLimit,
		"\x01\x05\x01\xff":                             api.ErrText,
		"\x02\x05\x01\xff\x01\x02":                     api.ErrText,
		"\x01\x01\x02\x00":                             api.ErrRange,
		"\x02\x01\x02\x05\x01\xff":                     api.ErrRange,
		"\x09\x05\x01\xff" + strings.Repeat("\x00", 8): api.ErrLimit,
	} {
		l = append(l, wrong{packed(s), err, false})
	}
	return l
}

// wrongTables tells bytes that are no table's.
func wrongTables() []wrong {
	l := append(noNumbers(), []wrong{
		{"\x01t\x65\x01\x01k\x02\x00\x00", api.ErrArg, false},
		{"\x01t\x01\x09", api.ErrLimit, false},
		{"\x01t\x81\x00\x01\x01k\x02\x00\x00", api.ErrForm, false},
		{"\x01t\x01\x01\x01k\x65", api.ErrArg, false},
		{"\x01t\x01\x01\x01k\x02\x02\x00", api.ErrForm, false},
		{"\x01t\x01\x01\x01k\x02\x00\x06", api.ErrForm, false},
	}...)
	for _, no := range sample.RefusedTables() {
		plainly := len(no.Table.Cols) <= api.MaxCols
		for _, c := range no.Table.Cols {
			plainly = plainly && c.Default != sample.Bool(2)
		}
		if plainly {
			l = append(l, wrong{rawTable(no.Table), no.Err, false})
		}
	}
	return l
}

// wrongAround tells bytes that are no table's, and those of tables that PutChange does not write around a column.
func wrongAround() []wrong {
	v, k := open("v", api.KindText), col("k", api.KindInt)
	l := wrongTables()
	for _, t := range list(
		table("y", 1, k, v),
		table("t", 1, k, v),
		table("xx", 1, k, v),
		table("x", 2, k, col("v", api.KindText)),
		table("x", 1, k),
		table("x", 1, col("v", api.KindText)),
		table("x", 1, k, v, open("w", api.KindText)),
		table("x", 1, k, open("w", api.KindText), v),
		table("x", 1, col("j", api.KindInt), v),
		table("x", 1, col("kk", api.KindInt), v),
		table("x", 1, col("l", api.KindInt), open("k", api.KindText)),
		table("x", 1, col("k", api.KindBool), v),
		table("x", 1, col("k", api.KindText), v),
		table("x", 1, col("j", api.KindText), open("k", api.KindText)),
		table("x", 1, with(k, num(0)), v),
		table("x", 1, with(k, num(1)), v),
		table("x", 1, with(col("j", api.KindInt), num(1)), open("k", api.KindText)),
		ints(1, 8),
		plain(),
	) {
		l = append(l, wrong{rawTable(t), api.ErrForm, true})
	}
	return l
}

// wrongsOfChange tells what may be wrong with each of c's pieces.
func wrongsOfChange(c api.Change) [][]wrong {
	l := list(wrongNumbers(0, 7, 8), wrongTexts(), wrongTexts(), wrongTexts(), wrongTexts(), wrongTexts(), wrongNumbers(101, 102), wrongNumbers(9, 10))
	for range c.Names {
		l = append(l, wrongTexts())
	}
	switch c.Kind {
	case api.ChangeCreate:
		l = append(l, wrongTables())
	case api.ChangeAdd:
		l = append(l, wrongAround())
	}
	return l
}

// wrongsOfOp tells what may be wrong with each of o's pieces.
func wrongsOfOp(o api.Op) [][]wrong {
	l := list(wrongNumbers(0, 10, 11), wrongTexts(), wrongRows(), wrongRows(), wrongRows(), wrongNumbers(65, 66))
	if o.Kind == api.OpChange {
		l = append(l, wrongsOfChange(o.Change)...)
	}
	return l
}

// replaced tells pieces, one of which is another, in one.
func replaced(pieces []string, at int, s string) string {
	pieces = slices.Clone(pieces)
	pieces[at] = s
	return strings.Join(pieces, "")
}

// wantOneWrong holds what is read of those pieces, of which one is wrong, against its error, whatever stands behind.
func wantOneWrong(t *testing.T, pieces []string, wrongs [][]wrong, want func(t *testing.T, s string, err api.Errno)) {
	t.Helper()
	for at, l := range wrongs {
		for _, no := range l {
			s := replaced(pieces, at, no.s)
			want(t, s, no.err)
			want(t, s+"\x00\x00z", no.err)
		}
	}
}

// wantTwoWrongs holds what is read of those pieces, of which two are wrong, against the first one's error: but what is told at last is told behind all others.
func wantTwoWrongs(t *testing.T, pieces []string, wrongs [][]wrong, want func(t *testing.T, s string, err api.Errno)) {
	t.Helper()
	for first, l := range wrongs {
		for second := first + 1; second < len(wrongs); second++ {
			for i, no := range l {
				// Not each with each: the second goes round.
				also := wrongs[second][(i+first+second)%len(wrongs[second])]
				err := no.err
				if no.late {
					err = also.err
				}
				all := slices.Clone(pieces)
				all[first] = no.s
				want(t, replaced(all, second, also.s), err)
			}
		}
	}
}

func TestReadChangeOfWrongBytes(t *testing.T) {
	for _, c := range kindsOfChanges() {
		for _, c := range list(c, named(typed(filled(c), 100), "v", "w")) {
			wantOneWrong(t, changePieces(c), wrongsOfChange(c), wantNotReadChange)
			wantTwoWrongs(t, changePieces(c), wrongsOfChange(c), wantNotReadChange)
		}
	}
}

func TestReadOfWrongBytes(t *testing.T) {
	var l []api.Op
	for kind := api.OpGet; kind <= api.OpAbort; kind++ {
		if kind != api.OpChange {
			l = append(l, api.Op{Kind: kind}, api.Op{Kind: kind, Table: "t", Row: mixed(), Lo: list(num(1)), Hi: list(num(2)), Max: 64})
		}
	}
	for _, c := range kindsOfChanges() {
		l = append(l, changing(c), api.Op{Kind: api.OpChange, Table: "t", Row: mixed(), Lo: list(num(1)), Hi: list(num(2)), Max: 64, Change: c})
	}
	for _, o := range l {
		wantOneWrong(t, opPieces(o), wrongsOfOp(o), wantNotRead)
		wantTwoWrongs(t, opPieces(o), wrongsOfOp(o), wantNotRead)
	}
}

// Bytes in so many words, and the error that is met first.
var unread = []struct {
	s   string
	err api.Errno
}{
	{"", api.ErrShort},
	{"\x00", api.ErrArg},
	{"\x0a", api.ErrArg},
	{"\x0a\x80", api.ErrArg},
	{"\x80", api.ErrShort},
	{"\x87\x00\x00\x01\x00\x01\x00\x01\x00\x00", api.ErrForm},
	{"\x07", api.ErrShort},
	{"\x07\x11", api.ErrShort},
	{"\x07\x80\x00\x01\x00\x01\x00\x01\x00\x00", api.ErrForm},
	{"\x07\x00\x00\x01\x00\x01\x00\x00", api.ErrShort},        // no row's bytes at all
	{"\x07\x00\x02\x00\x00\x01\x00\x01\x00\x00", api.ErrForm}, // a byte behind the row
	{"\x07\x00\x02\x00\x00\x01\x00\x01\x00\x41", api.ErrForm}, // ahead of Max
	{"\x07\x00\x01\x00\x01\x09\x01\x00\x41", api.ErrLimit},    // ahead of Max
	{"\x07\x00\x01\x00\x01\x00\x01\x00\x41", api.ErrArg},      // Max
	{"\x07\x00\x01\x00\x01\x00\x01\x00\xc1\x00", api.ErrForm}, // Max
	{"\x07\x11" + tooLong + "\x01\x00\x01\x00\x01\x00\x41", api.ErrArg},
	{"\x07\x11" + tooLong + "\x01\x09\x01\x00\x01\x00\x00", api.ErrLimit},
	{"\x07\x11" + tooLong + "\x01\x00\x01\x00\x01\x00", api.ErrShort},
	{"\x07\x11" + tooLong + "\x01\x00\x01\x00\x01\x00\x00", api.ErrForm},
	{"\x06\x00\x01\x00\x01\x00\x01\x00\x00", api.ErrShort},
	{"\x06\x00\x01\x00\x01\x00\x01\x00\x00\x00", api.ErrArg},
	{"\x06\x00\x01\x00\x01\x00\x01\x00\x00\x07", api.ErrArg},
	{"\x06\x00\x01\x00\x01\x00\x01\x00\x41\x00", api.ErrArg},
	{"\x06\x11" + tooLong + "\x01\x00\x01\x00\x01\x00\x00\x06\x00\x00\x00\x00\x00\x65\x00", api.ErrArg},
	{"\x06\x11" + tooLong + "\x01\x00\x01\x00\x01\x00\x00\x06\x00\x00\x00\x00\x00\x00\x00", api.ErrForm},
	{"\x06\x00\x01\x00\x01\x00\x01\x00\x00\x06\x11" + tooLong + "\x00\x00\x00\x00\x00\x00", api.ErrForm},
	{"\x06\x00\x01\x00\x01\x00\x01\x00\x00\x06\x11" + tooLong + "\x00\x00\x00\x00\x00\x09", api.ErrArg},
	{"\x06\x00\x01\x00\x01\x00\x01\x00\x00\x01\x11" + tooLong + "\x00\x00\x00\x00\x00\x00" + "\x01t\x01\x00", api.ErrLimit},
	{"\x06\x00\x01\x00\x01\x00\x01\x00\x00\x01\x11" + tooLong + "\x00\x00\x00\x00\x00\x00" + "\x01t\x01\x01\x01k\x02\x00\x00", api.ErrForm},
	{"\x06\x00\x01\x00\x01\x00\x01\x00\x00\x02\x00\x00\x00\x00\x00\x00\x00" + "\x01y\x01\x02\x01k\x02\x00\x00\x01v\x05\x01\x00", api.ErrForm},
	{"\x06\x00\x01\x00\x01\x00\x01\x00\x00\x02\x00\x00\x00\x00\x00\x00\x00" + "\x01y\x01\x02\x01k\x02\x00\x00\x01k\x05\x01\x00", api.ErrTwice},
}

func TestReadOfBytesThatNoOpHas(t *testing.T) {
	for _, want := range unread {
		wantNotRead(t, want.s, want.err)
		if want.err != api.ErrShort {
			wantNotRead(t, want.s+"behind", want.err)
		}
	}
}

// Each number up to 300 as each of the numbers that are read.
func TestReadOfEachNumber(t *testing.T) {
	for n := range 300 {
		o := api.Op{Kind: n}
		if n == api.OpChange {
			o.Change = merging("a", "b", "c")
		}
		wantReadIf(t, n >= 1 && n <= 9, rawOp(o), o)
		wantReadIf(t, n <= 64, rawOp(api.Op{Kind: api.OpScan, Max: n}), api.Op{Kind: api.OpScan, Max: n})

		c := api.Change{Kind: n, Def: plain(), Col: open("v", api.KindText)}
		if n != api.ChangeCreate {
			c.Def = api.Table{}
		}
		if n != api.ChangeAdd {
			c.Col = api.Col{}
		}
		wantReadChangeIf(t, n >= 1 && n <= 6, c)
		for _, c := range kindsOfChanges() {
			wantReadChangeIf(t, n <= 100, typed(c, n))
			wantReadChangeIf(t, n <= 8, named(c, times("n", n)...))
		}
	}
}

// wantReadIf holds Read of s against o, or against ErrArg.
func wantReadIf(t *testing.T, may bool, s string, o api.Op) {
	t.Helper()
	if may {
		wantRead(t, s+"z", o, "z")
	} else {
		wantNotRead(t, s+"z", api.ErrArg)
	}
}

// wantReadChangeIf holds ReadChange of c's bytes against c, or against ErrArg.
func wantReadChangeIf(t *testing.T, may bool, c api.Change) {
	t.Helper()
	if may {
		wantReadChange(t, rawChange(c)+"z", c, "z")
	} else {
		wantNotReadChange(t, rawChange(c)+"z", api.ErrArg)
	}
}
