package convert_test

import (
	"encoding/binary"
	"math"
	"math/big"
	"math/rand"
	"strings"
	"testing"
	"unicode/utf8"

	"transom/api"
	"transom/convert"
	"transom/sample"
	"transom/values"
)

// strangeKinds holds kinds that the chapter's table does not have.
var strangeKinds = []int{0, 6, -1, 7, -5, 256, 256 + api.KindInt, 1<<32 + api.KindText, math.MinInt, math.MinInt + api.KindInt, math.MaxInt}

// digits holds numbers and the texts that promise 7.1 says of them.
var digits = []struct {
	n int
	s string
}{
	{0, "0"}, {1, "1"}, {-1, "-1"}, {7, "7"}, {-7, "-7"}, {9, "9"}, {-9, "-9"}, {10, "10"}, {-10, "-10"}, {11, "11"}, {12, "12"},
	{99, "99"}, {100, "100"}, {-100, "-100"}, {101, "101"}, {-2026, "-2026"}, {1234567890, "1234567890"}, {-9876543210, "-9876543210"},
	{999999999999999999, "999999999999999999"}, {1000000000000000000, "1000000000000000000"}, {-1000000000000000000, "-1000000000000000000"},
	{1 << 53, "9007199254740992"}, {-1 << 53, "-9007199254740992"},
	{api.MaxInt - 1, "9223372036854775806"}, {api.MaxInt, "9223372036854775807"},
	{api.MinInt + 1, "-9223372036854775807"}, {api.MinInt, "-9223372036854775808"},
}

// noNumbers holds texts that are no number's Digits.
var noNumbers = []string{
	"", "-", "--", "+", "-0", "+0", "00", "-00", "+1", "+12", "--1", "-+1", "+-1", "1-", "1-2",
	"01", "012", "0012", "-01", "-012", " 1", "1 ", " ", "1 2", "- 1", "\t1", "1\n", "1\r\n", "\x001", "1\x00",
	"a", "1a", "a1", "1a2", "12a45", "1O", "0x10", "0b1", "0o7", "1_000", "1,000", "1'000", "1e3", "1.0", "1.", ".1", "-.1", "0.",
	"false", "true", "null", "nan", "NaN", "inf", "-inf",
	"/", ":", "1/", "1:", "\xff", "1\xff", "\xb1", "\xd9\xa1", "\xef\xbc\x91", "\xe2\x88\x921", "\xe2\x80\x8b1",
	"9223372036854775808", "9223372036854775809", "-9223372036854775809", "-9223372036854775810", "9999999999999999999", "-9999999999999999999",
	"18446744073709551615", "18446744073709551616", "18446744073709551617", "-18446744073709551615",
	"92233720368547758070", "-92233720368547758080", "10000000000000000000", "100000000000000000000",
	"09223372036854775807", "-09223372036854775808", "+9223372036854775807", "340282366920938463463374607431768211457",
	strings.Repeat("1", 64), strings.Repeat("0", 64), strings.Repeat("0", 63) + "1", strings.Repeat("9", 1<<16), strings.Repeat("-", 1<<16),
}

// wantNumber holds Number of s against a number, or against ErrText and 0 beside it.
func wantNumber(t *testing.T, s string, n int, want api.Errno) {
	t.Helper()
	if got, err := convert.Number(s); got != n || err != want {
		t.Errorf("Number(%q) = %d, %d, want %d, %d", s, got, err, n, want)
	}
}

func TestDigitsAndNumber(t *testing.T) {
	for _, c := range digits {
		if got := convert.Digits(c.n); got != c.s {
			t.Errorf("Digits(%d) = %q, want %q", c.n, got, c.s)
		}
		wantNumber(t, c.s, c.n, api.OK)
	}
}

func TestNumberOfTextsThatAreNone(t *testing.T) {
	for _, s := range noNumbers {
		wantNumber(t, s, 0, api.ErrText)
	}
}

// A text that is a number's Digits is none with anything ahead of it, within it or behind it that is no digit; nor with a 0 ahead.
func TestNumberOfSpoiltDigits(t *testing.T) {
	for _, c := range digits {
		for _, b := range []string{" ", "+", "a", ".", "_", "\x00", "\n", "\xff"} {
			for at := range len(c.s) + 1 {
				wantNumber(t, c.s[:at]+b+c.s[at:], 0, api.ErrText)
			}
		}
		for at := 1; at <= len(c.s); at++ {
			wantNumber(t, c.s[:at]+"-"+c.s[at:], 0, api.ErrText)
		}
		wantNumber(t, "0"+c.s, 0, api.ErrText)
		wantNumber(t, "-0"+c.s, 0, api.ErrText)
	}
}

// Numbers beside each power of 2 and of 10, below and above 0, held against the library's greater numbers.
func TestDigitsAndNumberBesideThePowers(t *testing.T) {
	for _, base := range []int64{2, 10} {
		power := big.NewInt(1)
		for power.BitLen() <= 70 {
			for off := int64(-12); off <= 12; off++ {
				n := new(big.Int).Add(power, big.NewInt(off))
				wantBig(t, n)
				wantBig(t, n.Neg(n))
			}
			power.Mul(power, big.NewInt(base))
		}
	}
}

// wantBig holds Number, and Digits of an int, against n.
func wantBig(t *testing.T, n *big.Int) {
	t.Helper()
	s := n.String()
	if !n.IsInt64() {
		wantNumber(t, s, 0, api.ErrText)
		return
	}
	wantNumber(t, s, int(n.Int64()), api.OK)
	if got := convert.Digits(int(n.Int64())); got != s {
		t.Errorf("Digits(%s) = %q", s, got)
	}
}

// All short texts of the bytes that matter: those are numbers that are some number's digits, and no other ones.
func TestNumberOfShortTexts(t *testing.T) {
	known := map[string]int{}
	for n := int64(-999); n <= 9999; n++ {
		known[big.NewInt(n).String()] = int(n)
	}
	texts := []string{""}
	for at := 0; at < len(texts); at++ {
		s := texts[at]
		if n, ok := known[s]; ok {
			wantNumber(t, s, n, api.OK)
		} else {
			wantNumber(t, s, 0, api.ErrText)
		}
		if len(s) == 4 {
			continue
		}
		for _, b := range []string{"-", "+", "0", "1", "5", "9", " ", "a", "\xff"} {
			texts = append(texts, s+b)
		}
	}
}

// Reals beside those of package sample.
const (
	minusZero = sample.Sign
	minusInf  = sample.Sign | sample.Inf
	otherNaN  = sample.TheNaN | 1
)

// Bytes of numbers at the borders.
const (
	zeros8 = "\x00\x00\x00\x00\x00\x00\x00\x00"
	ones8  = "\xff\xff\xff\xff\xff\xff\xff\xff"
)

// float tells a real by the machine's number.
func float(f float64) api.Value {
	return sample.Real(math.Float64bits(f))
}

// cells holds values, a kind, and what the table says that they become, cell by cell.
var cells = []struct {
	v    api.Value
	kind int
	want api.Value
	err  api.Errno
}{
	// The chapter's examples.
	{sample.Text("12"), api.KindInt, sample.Int(12), api.OK},
	{sample.Text("012"), api.KindInt, api.Value{}, api.ErrText},
	{float(1.5), api.KindInt, api.Value{}, api.ErrRange},
	// Bools.
	{sample.Bool(0), api.KindInt, sample.Int(0), api.OK},
	{sample.Bool(1), api.KindInt, sample.Int(1), api.OK},
	{sample.Bool(0), api.KindReal, sample.Real(0), api.OK},
	{sample.Bool(1), api.KindReal, sample.Real(sample.One), api.OK},
	{sample.Bool(0), api.KindBytes, api.Value{}, api.ErrKind},
	{sample.Bool(1), api.KindBytes, api.Value{}, api.ErrKind},
	{sample.Bool(0), api.KindText, sample.Text("false"), api.OK},
	{sample.Bool(1), api.KindText, sample.Text("true"), api.OK},
	// Ints as bools.
	{sample.Int(0), api.KindBool, sample.Bool(0), api.OK},
	{sample.Int(1), api.KindBool, sample.Bool(1), api.OK},
	{sample.Int(-1), api.KindBool, api.Value{}, api.ErrRange},
	{sample.Int(2), api.KindBool, api.Value{}, api.ErrRange},
	{sample.Int(256), api.KindBool, api.Value{}, api.ErrRange},
	{sample.Int(1<<32 + 1), api.KindBool, api.Value{}, api.ErrRange},
	{sample.Int(api.MaxInt), api.KindBool, api.Value{}, api.ErrRange},
	{sample.Int(api.MinInt), api.KindBool, api.Value{}, api.ErrRange},
	// Ints as reals.
	{sample.Int(0), api.KindReal, sample.Real(0), api.OK},
	{sample.Int(1), api.KindReal, sample.Real(sample.One), api.OK},
	{sample.Int(-1), api.KindReal, sample.Real(sample.Sign | sample.One), api.OK},
	{sample.Int(9), api.KindReal, float(9), api.OK},
	{sample.Int(10), api.KindReal, float(10), api.OK},
	{sample.Int(1<<53 - 1), api.KindReal, float(1<<53 - 1), api.OK},
	{sample.Int(1 << 53), api.KindReal, float(1 << 53), api.OK},
	{sample.Int(1<<53 + 1), api.KindReal, api.Value{}, api.ErrRange},
	{sample.Int(1<<53 + 2), api.KindReal, float(1<<53 + 2), api.OK},
	{sample.Int(-1<<53 - 1), api.KindReal, api.Value{}, api.ErrRange},
	{sample.Int(-1 << 53), api.KindReal, float(-1 << 53), api.OK},
	{sample.Int(-1<<53 - 2), api.KindReal, float(-1<<53 - 2), api.OK},
	{sample.Int(1 << 62), api.KindReal, float(1 << 62), api.OK},
	{sample.Int(api.MaxInt), api.KindReal, api.Value{}, api.ErrRange},
	{sample.Int(api.MaxInt - 1023), api.KindReal, float(1<<63 - 1024), api.OK},
	{sample.Int(api.MinInt), api.KindReal, float(-1 << 63), api.OK},
	{sample.Int(api.MinInt + 1), api.KindReal, api.Value{}, api.ErrRange},
	// Ints as bytes.
	{sample.Int(0), api.KindBytes, sample.Bytes(zeros8), api.OK},
	{sample.Int(1), api.KindBytes, sample.Bytes("\x00\x00\x00\x00\x00\x00\x00\x01"), api.OK},
	{sample.Int(256), api.KindBytes, sample.Bytes("\x00\x00\x00\x00\x00\x00\x01\x00"), api.OK},
	{sample.Int(-1), api.KindBytes, sample.Bytes(ones8), api.OK},
	{sample.Int(-2), api.KindBytes, sample.Bytes("\xff\xff\xff\xff\xff\xff\xff\xfe"), api.OK},
	{sample.Int(0x0102030405060708), api.KindBytes, sample.Bytes("\x01\x02\x03\x04\x05\x06\x07\x08"), api.OK},
	{sample.Int(api.MaxInt), api.KindBytes, sample.Bytes("\x7f\xff\xff\xff\xff\xff\xff\xff"), api.OK},
	{sample.Int(api.MinInt), api.KindBytes, sample.Bytes("\x80\x00\x00\x00\x00\x00\x00\x00"), api.OK},
	// Ints as texts.
	{sample.Int(0), api.KindText, sample.Text("0"), api.OK},
	{sample.Int(1), api.KindText, sample.Text("1"), api.OK},
	{sample.Int(-1), api.KindText, sample.Text("-1"), api.OK},
	{sample.Int(9), api.KindText, sample.Text("9"), api.OK},
	{sample.Int(10), api.KindText, sample.Text("10"), api.OK},
	{sample.Int(api.MaxInt), api.KindText, sample.Text("9223372036854775807"), api.OK},
	{sample.Int(api.MinInt), api.KindText, sample.Text("-9223372036854775808"), api.OK},
	// Reals as bools.
	{sample.Real(0), api.KindBool, sample.Bool(0), api.OK},
	{sample.Real(minusZero), api.KindBool, sample.Bool(0), api.OK},
	{sample.Real(sample.One), api.KindBool, sample.Bool(1), api.OK},
	{float(-1), api.KindBool, api.Value{}, api.ErrRange},
	{float(2), api.KindBool, api.Value{}, api.ErrRange},
	{float(0.5), api.KindBool, api.Value{}, api.ErrRange},
	{sample.Real(sample.One - 1), api.KindBool, api.Value{}, api.ErrRange},
	{sample.Real(sample.One + 1), api.KindBool, api.Value{}, api.ErrRange},
	{sample.Real(1), api.KindBool, api.Value{}, api.ErrRange},
	{sample.Real(sample.Most), api.KindBool, api.Value{}, api.ErrRange},
	{sample.Real(sample.Inf), api.KindBool, api.Value{}, api.ErrRange},
	{sample.Real(minusInf), api.KindBool, api.Value{}, api.ErrRange},
	{sample.Real(sample.TheNaN), api.KindBool, api.Value{}, api.ErrRange},
	// Reals as ints.
	{sample.Real(0), api.KindInt, sample.Int(0), api.OK},
	{sample.Real(minusZero), api.KindInt, sample.Int(0), api.OK},
	{sample.Real(sample.One), api.KindInt, sample.Int(1), api.OK},
	{float(-1), api.KindInt, sample.Int(-1), api.OK},
	{float(-1.5), api.KindInt, api.Value{}, api.ErrRange},
	{sample.Real(sample.One + 1), api.KindInt, api.Value{}, api.ErrRange},
	{sample.Real(1), api.KindInt, api.Value{}, api.ErrRange},
	{sample.Real(sample.Sign | 1), api.KindInt, api.Value{}, api.ErrRange},
	{float(1<<53 - 1), api.KindInt, sample.Int(1<<53 - 1), api.OK},
	{float(1 << 53), api.KindInt, sample.Int(1 << 53), api.OK},
	{float(1<<53 + 2), api.KindInt, sample.Int(1<<53 + 2), api.OK},
	{float(1<<51 + 0.5), api.KindInt, api.Value{}, api.ErrRange},
	{float(1<<52 + 1), api.KindInt, sample.Int(1<<52 + 1), api.OK},
	{float(1<<63 - 1024), api.KindInt, sample.Int(1<<63 - 1024), api.OK},
	{float(1 << 63), api.KindInt, api.Value{}, api.ErrRange},
	{float(-1 << 63), api.KindInt, sample.Int(api.MinInt), api.OK},
	{float(-1<<63 - 2048), api.KindInt, api.Value{}, api.ErrRange},
	{sample.Real(sample.Most), api.KindInt, api.Value{}, api.ErrRange},
	{sample.Real(sample.Most - 1), api.KindInt, api.Value{}, api.ErrRange},
	{sample.Real(sample.Sign | sample.Most), api.KindInt, api.Value{}, api.ErrRange},
	{sample.Real(sample.Sign | sample.Most - 1), api.KindInt, api.Value{}, api.ErrRange},
	{sample.Real(sample.Inf), api.KindInt, api.Value{}, api.ErrRange},
	{sample.Real(minusInf), api.KindInt, api.Value{}, api.ErrRange},
	{sample.Real(sample.TheNaN), api.KindInt, api.Value{}, api.ErrRange},
	// Reals as bytes, and as texts.
	{sample.Real(0), api.KindBytes, sample.Bytes(zeros8), api.OK},
	{sample.Real(minusZero), api.KindBytes, sample.Bytes("\x80\x00\x00\x00\x00\x00\x00\x00"), api.OK},
	{sample.Real(1), api.KindBytes, sample.Bytes("\x00\x00\x00\x00\x00\x00\x00\x01"), api.OK},
	{sample.Real(sample.One), api.KindBytes, sample.Bytes("\x3f\xf0\x00\x00\x00\x00\x00\x00"), api.OK},
	{sample.Real(0x0102030405060708), api.KindBytes, sample.Bytes("\x01\x02\x03\x04\x05\x06\x07\x08"), api.OK},
	{sample.Real(sample.Most), api.KindBytes, sample.Bytes("\x7f\xef\xff\xff\xff\xff\xff\xff"), api.OK},
	{sample.Real(sample.Most - 1), api.KindBytes, sample.Bytes("\x7f\xef\xff\xff\xff\xff\xff\xfe"), api.OK},
	{sample.Real(sample.Sign | sample.Most), api.KindBytes, sample.Bytes("\xff\xef\xff\xff\xff\xff\xff\xff"), api.OK},
	{sample.Real(sample.Inf), api.KindBytes, sample.Bytes("\x7f\xf0\x00\x00\x00\x00\x00\x00"), api.OK},
	{sample.Real(minusInf), api.KindBytes, sample.Bytes("\xff\xf0\x00\x00\x00\x00\x00\x00"), api.OK},
	{sample.Real(sample.TheNaN), api.KindBytes, sample.Bytes("\x7f\xf8\x00\x00\x00\x00\x00\x00"), api.OK},
	{sample.Real(0), api.KindText, api.Value{}, api.ErrKind},
	{sample.Real(sample.One), api.KindText, api.Value{}, api.ErrKind},
	{sample.Real(sample.TheNaN), api.KindText, api.Value{}, api.ErrKind},
	// Bytes as bools.
	{sample.Bytes(""), api.KindBool, api.Value{}, api.ErrKind},
	{sample.Bytes("\x01"), api.KindBool, api.Value{}, api.ErrKind},
	{sample.Bytes("true"), api.KindBool, api.Value{}, api.ErrKind},
	{sample.Bytes(zeros8), api.KindBool, api.Value{}, api.ErrKind},
	// Bytes as ints.
	{sample.Bytes(""), api.KindInt, api.Value{}, api.ErrRange},
	{sample.Bytes("1"), api.KindInt, api.Value{}, api.ErrRange},
	{sample.Bytes(zeros8[:7]), api.KindInt, api.Value{}, api.ErrRange},
	{sample.Bytes(zeros8 + "\x00"), api.KindInt, api.Value{}, api.ErrRange},
	{sample.Bytes(zeros8 + zeros8), api.KindInt, api.Value{}, api.ErrRange},
	{sample.Bytes(strings.Repeat("\xff", 64)), api.KindInt, api.Value{}, api.ErrRange},
	{sample.Bytes(zeros8), api.KindInt, sample.Int(0), api.OK},
	{sample.Bytes(ones8), api.KindInt, sample.Int(-1), api.OK},
	{sample.Bytes("12345678"), api.KindInt, sample.Int(0x3132333435363738), api.OK},
	{sample.Bytes("\x00\x00\x00\x00\x00\x00\x01\x02"), api.KindInt, sample.Int(258), api.OK},
	{sample.Bytes("\x7f\xff\xff\xff\xff\xff\xff\xff"), api.KindInt, sample.Int(api.MaxInt), api.OK},
	{sample.Bytes("\x80\x00\x00\x00\x00\x00\x00\x00"), api.KindInt, sample.Int(api.MinInt), api.OK},
	// Bytes as reals.
	{sample.Bytes(""), api.KindReal, api.Value{}, api.ErrRange},
	{sample.Bytes(zeros8[:7]), api.KindReal, api.Value{}, api.ErrRange},
	{sample.Bytes(zeros8 + "\x00"), api.KindReal, api.Value{}, api.ErrRange},
	{sample.Bytes(zeros8), api.KindReal, sample.Real(0), api.OK},
	{sample.Bytes("\x80\x00\x00\x00\x00\x00\x00\x00"), api.KindReal, sample.Real(minusZero), api.OK},
	{sample.Bytes("\x00\x00\x00\x00\x00\x00\x00\x01"), api.KindReal, sample.Real(1), api.OK},
	{sample.Bytes("\x3f\xf0\x00\x00\x00\x00\x00\x00"), api.KindReal, sample.Real(sample.One), api.OK},
	{sample.Bytes("\x7f\xef\xff\xff\xff\xff\xff\xff"), api.KindReal, sample.Real(sample.Most), api.OK},
	{sample.Bytes("\x7f\xf0\x00\x00\x00\x00\x00\x00"), api.KindReal, sample.Real(sample.Inf), api.OK},
	{sample.Bytes("\xff\xf0\x00\x00\x00\x00\x00\x00"), api.KindReal, sample.Real(minusInf), api.OK},
	{sample.Bytes("\x7f\xf8\x00\x00\x00\x00\x00\x00"), api.KindReal, sample.Real(sample.TheNaN), api.OK},
	{sample.Bytes("\x7f\xf8\x00\x00\x00\x00\x00\x01"), api.KindReal, sample.Real(sample.TheNaN), api.OK},
	{sample.Bytes("\x7f\xf0\x00\x00\x00\x00\x00\x01"), api.KindReal, sample.Real(sample.TheNaN), api.OK},
	{sample.Bytes("\xff\xf8\x00\x00\x00\x00\x00\x00"), api.KindReal, sample.Real(sample.TheNaN), api.OK},
	{sample.Bytes(ones8), api.KindReal, sample.Real(sample.TheNaN), api.OK},
	// Bytes as texts.
	{sample.Bytes(""), api.KindText, sample.Text(""), api.OK},
	{sample.Bytes("a\x00\xc3\xa4"), api.KindText, sample.Text("a\x00\xc3\xa4"), api.OK},
	{sample.Bytes(strings.Repeat("x", 64)), api.KindText, sample.Text(strings.Repeat("x", 64)), api.OK},
	{sample.Bytes("\xff"), api.KindText, api.Value{}, api.ErrText},
	{sample.Bytes("a\xc3"), api.KindText, api.Value{}, api.ErrText},
	{sample.Bytes("\xed\xa0\x80"), api.KindText, api.Value{}, api.ErrText},
	{sample.Bytes("\xc0\x80"), api.KindText, api.Value{}, api.ErrText},
	{sample.Bytes(strings.Repeat("x", 63) + "\xff"), api.KindText, api.Value{}, api.ErrText},
	// Texts as bools.
	{sample.Text("false"), api.KindBool, sample.Bool(0), api.OK},
	{sample.Text("true"), api.KindBool, sample.Bool(1), api.OK},
	{sample.Text(""), api.KindBool, api.Value{}, api.ErrText},
	{sample.Text("0"), api.KindBool, api.Value{}, api.ErrText},
	{sample.Text("1"), api.KindBool, api.Value{}, api.ErrText},
	{sample.Text("True"), api.KindBool, api.Value{}, api.ErrText},
	{sample.Text("FALSE"), api.KindBool, api.Value{}, api.ErrText},
	{sample.Text("tru"), api.KindBool, api.Value{}, api.ErrText},
	{sample.Text("truee"), api.KindBool, api.Value{}, api.ErrText},
	{sample.Text(" true"), api.KindBool, api.Value{}, api.ErrText},
	{sample.Text("false "), api.KindBool, api.Value{}, api.ErrText},
	{sample.Text("t"), api.KindBool, api.Value{}, api.ErrText},
	{sample.Text("null"), api.KindBool, api.Value{}, api.ErrText},
	// Texts as reals, and as bytes; texts as ints are held against Number below.
	{sample.Text(""), api.KindReal, api.Value{}, api.ErrKind},
	{sample.Text("1"), api.KindReal, api.Value{}, api.ErrKind},
	{sample.Text("1.5"), api.KindReal, api.Value{}, api.ErrKind},
	{sample.Text(""), api.KindBytes, sample.Bytes(""), api.OK},
	{sample.Text("a\x00\xc3\xa4"), api.KindBytes, sample.Bytes("a\x00\xc3\xa4"), api.OK},
	{sample.Text("12"), api.KindBytes, sample.Bytes("12"), api.OK},
	{sample.Text(strings.Repeat("x", 64)), api.KindBytes, sample.Bytes(strings.Repeat("x", 64)), api.OK},
}

// wantTo holds To of v and a kind against a value and an error.
func wantTo(t *testing.T, v api.Value, kind int, want api.Value, wantErr api.Errno) {
	t.Helper()
	if got, err := convert.To(v, kind); got != want || err != wantErr {
		t.Errorf("To(%+v, %d) = %+v, %d, want %+v, %d", v, kind, got, err, want, wantErr)
	}
}

func TestToOfEachCell(t *testing.T) {
	for _, c := range cells {
		wantTo(t, c.v, c.kind, c.want, c.err)
	}
}

func TestToOfTextsAsInts(t *testing.T) {
	for _, c := range digits {
		wantTo(t, sample.Text(c.s), api.KindInt, sample.Int(c.n), api.OK)
		wantTo(t, sample.Int(c.n), api.KindText, sample.Text(c.s), api.OK)
	}
	for _, s := range noNumbers {
		if values.Check(sample.Text(s)) == api.OK {
			wantTo(t, sample.Text(s), api.KindInt, api.Value{}, api.ErrText)
		}
	}
}

// all tells values that may be: null, those of cells, numbers and reals at the borders and by chance, bytes and texts of many sizes.
func all() []api.Value {
	vs := []api.Value{sample.Null()}
	for _, c := range cells {
		vs = append(vs, c.v)
	}
	for _, c := range digits {
		vs = append(vs, sample.Int(c.n), sample.Text(c.s))
	}
	chance := rand.New(rand.NewSource(7))
	for at := range 64 {
		bit := uint64(1) << at
		for _, n := range []uint64{bit, bit - 1, bit + 1, -bit, ^bit, -bit - 1, chance.Uint64() >> at, -(chance.Uint64() >> at)} {
			vs = append(vs, sample.Int(int(n)), sample.Real(n), float(float64(int(n))), float(float64(int(n))+0.5), sample.Bytes(eight(n)))
		}
		for _, tail := range []string{"\xff", "\x00", "7"} {
			s := strings.Repeat("x", at) + tail
			vs = append(vs, sample.Bytes(s), sample.Text(s))
		}
	}
	var may []api.Value
	for _, v := range vs {
		if values.Check(v) == api.OK {
			may = append(may, v)
		}
	}
	return may
}

// eight tells n's bytes by the library.
func eight(n uint64) string {
	return string(binary.BigEndian.AppendUint64(nil, n))
}

// wholeNumber tells the int that the machine's number f is: false, if it is none.
func wholeNumber(f float64) (int, bool) {
	n, accuracy := new(big.Float).SetFloat64(f).Int64()
	return int(n), accuracy == big.Exact
}

// toOf tells what the chapter's table says of v, which may be, and a kind that the table has, in the machine's numbers.
func toOf(v api.Value, kind int) (api.Value, api.Errno) {
	if v.Kind == api.KindNull || v.Kind == kind {
		return v, api.OK
	}
	switch v.Kind {
	case api.KindBool:
		switch kind {
		case api.KindInt:
			return sample.Int(v.N), api.OK
		case api.KindReal:
			return float(float64(v.N)), api.OK
		case api.KindText:
			return sample.Text(map[int]string{0: "false", 1: "true"}[v.N]), api.OK
		}
		return api.Value{}, api.ErrKind
	case api.KindInt:
		return intOf(v.N, kind)
	case api.KindReal:
		return realOf(v.Bits, kind)
	case api.KindBytes:
		return bytesOf(v.S, kind)
	}
	return textOf(v.S, kind)
}

func intOf(n, kind int) (api.Value, api.Errno) {
	switch kind {
	case api.KindBool:
		if n == 0 || n == 1 {
			return sample.Bool(n), api.OK
		}
		return api.Value{}, api.ErrRange
	case api.KindReal:
		if back, ok := wholeNumber(float64(n)); ok && back == n {
			return float(float64(n)), api.OK
		}
		return api.Value{}, api.ErrRange
	case api.KindBytes:
		return sample.Bytes(eight(uint64(n))), api.OK
	}
	return sample.Text(big.NewInt(int64(n)).String()), api.OK
}

func realOf(bits uint64, kind int) (api.Value, api.Errno) {
	f := math.Float64frombits(bits)
	switch {
	case kind == api.KindText:
		return api.Value{}, api.ErrKind
	case kind == api.KindBytes:
		return sample.Bytes(eight(bits)), api.OK
	case math.IsNaN(f) || math.IsInf(f, 0):
		return api.Value{}, api.ErrRange
	}
	n, ok := wholeNumber(f)
	switch {
	case !ok:
		return api.Value{}, api.ErrRange
	case kind == api.KindInt:
		return sample.Int(n), api.OK
	}
	return intOf(n, kind)
}

func bytesOf(s string, kind int) (api.Value, api.Errno) {
	switch {
	case kind == api.KindBool:
		return api.Value{}, api.ErrKind
	case kind == api.KindText && !utf8.ValidString(s):
		return api.Value{}, api.ErrText
	case kind == api.KindText:
		return sample.Text(s), api.OK
	case len(s) != 8:
		return api.Value{}, api.ErrRange
	}
	n := binary.BigEndian.Uint64([]byte(s))
	switch {
	case kind == api.KindInt:
		return sample.Int(int(n)), api.OK
	case math.IsNaN(math.Float64frombits(n)):
		return sample.Real(sample.TheNaN), api.OK
	}
	return sample.Real(n), api.OK
}

func textOf(s string, kind int) (api.Value, api.Errno) {
	switch kind {
	case api.KindBool:
		switch s {
		case "false":
			return sample.Bool(0), api.OK
		case "true":
			return sample.Bool(1), api.OK
		}
		return api.Value{}, api.ErrText
	case api.KindInt:
		n, ok := new(big.Int).SetString(s, 10)
		if !ok || !n.IsInt64() || n.String() != s {
			return api.Value{}, api.ErrText
		}
		return sample.Int(int(n.Int64())), api.OK
	case api.KindBytes:
		return sample.Bytes(s), api.OK
	}
	return api.Value{}, api.ErrKind
}

// Each value as each kind, held against the table; what it becomes may be, and is of that kind.
func TestToOfAll(t *testing.T) {
	for _, v := range all() {
		for kind := api.KindBool; kind <= api.KindText; kind++ {
			want, wantErr := toOf(v, kind)
			wantTo(t, v, kind, want, wantErr)
			got, err := convert.To(v, kind)
			if err == api.OK && (values.Check(got) != api.OK || v.Kind != api.KindNull && got.Kind != kind) {
				t.Errorf("To(%+v, %d) = %+v, which may not be", v, kind, got)
			}
		}
	}
}

func TestToOfNullAndOfTheOwnKind(t *testing.T) {
	for kind := api.KindBool; kind <= api.KindText; kind++ {
		wantTo(t, sample.Null(), kind, sample.Null(), api.OK)
	}
	for _, v := range all() {
		if v.Kind != api.KindNull {
			wantTo(t, v, v.Kind, v, api.OK)
		}
	}
}

// A kind that is none is refused whatever the value is, a null too, and one of the same kind.
func TestToOfStrangeKinds(t *testing.T) {
	for _, v := range all() {
		for _, kind := range strangeKinds {
			wantTo(t, v, kind, api.Value{}, api.ErrKind)
		}
	}
}

// A value that may not be is refused by Check's error, whatever the kind is: its own, one that it never becomes, or none.
func TestToOfRefused(t *testing.T) {
	for _, c := range sample.Refused() {
		for kind := api.KindBool; kind <= api.KindText; kind++ {
			wantTo(t, c.Value, kind, api.Value{}, c.Err)
		}
		for _, kind := range strangeKinds {
			wantTo(t, c.Value, kind, api.Value{}, c.Err)
		}
		wantTo(t, c.Value, c.Value.Kind, api.Value{}, c.Err)
	}
}

// kinds holds the table of Can: 1, unless it says ErrKind.
var kinds = [5][5]int{
	{1, 1, 1, 0, 1},
	{1, 1, 1, 1, 1},
	{1, 1, 1, 1, 0},
	{0, 1, 1, 1, 1},
	{1, 1, 0, 1, 1},
}

func TestCan(t *testing.T) {
	for i, line := range kinds {
		for j, want := range line {
			if got := convert.Can(i+1, j+1); got != (want == 1) {
				t.Errorf("Can(%d, %d) = %t", i+1, j+1, got)
			}
		}
	}
}

func TestCanOfStrangeKinds(t *testing.T) {
	for _, strange := range strangeKinds {
		for kind := api.KindBool; kind <= api.KindText; kind++ {
			if convert.Can(strange, kind) || convert.Can(kind, strange) {
				t.Errorf("Can of kinds %d and %d", strange, kind)
			}
		}
		for _, other := range strangeKinds {
			if convert.Can(strange, other) {
				t.Errorf("Can(%d, %d)", strange, other)
			}
		}
	}
}

// To tells ErrKind of a value that is not null just where Can tells false.
func TestCanIsWhatToTells(t *testing.T) {
	for _, v := range all() {
		for kind := -2; kind <= 8; kind++ {
			_, err := convert.To(v, kind)
			if v.Kind != api.KindNull && convert.Can(v.Kind, kind) != (err != api.ErrKind) {
				t.Errorf("To(%+v, %d): %d, but Can tells %t", v, kind, err, convert.Can(v.Kind, kind))
			}
		}
	}
}

// backOf tells what promise 7.3 lets v be behind a way to a kind and back.
func backOf(v api.Value, kind int) api.Value {
	switch {
	case v == sample.Real(minusZero) && (kind == api.KindBool || kind == api.KindInt):
		return sample.Real(0)
	case v.Kind == api.KindBytes && kind == api.KindReal && math.IsNaN(math.Float64frombits(binary.BigEndian.Uint64([]byte(v.S)))):
		return sample.Bytes("\x7f\xf8\x00\x00\x00\x00\x00\x00")
	}
	return v
}

// Promise 7.3: there and back again is the value, but for -0 and the bytes of NaNs.
func TestThereAndBackAgain(t *testing.T) {
	for _, v := range all() {
		for kind := api.KindBool; kind <= api.KindText; kind++ {
			there, err := convert.To(v, kind)
			if err != api.OK || v.Kind == api.KindNull {
				continue
			}
			// No way of the table is one way only: what it makes can be made what it was.
			wantTo(t, there, v.Kind, backOf(v, kind), api.OK)
		}
	}
}

func TestThereAndBackAgainWhereItIsAnother(t *testing.T) {
	for _, c := range []struct {
		v           api.Value
		kind        int
		there, back api.Value
	}{
		{sample.Real(minusZero), api.KindInt, sample.Int(0), sample.Real(0)},
		{sample.Real(minusZero), api.KindBool, sample.Bool(0), sample.Real(0)},
		{sample.Real(minusZero), api.KindBytes, sample.Bytes("\x80\x00\x00\x00\x00\x00\x00\x00"), sample.Real(minusZero)},
		{sample.Bytes("\x80\x00\x00\x00\x00\x00\x00\x00"), api.KindReal, sample.Real(minusZero), sample.Bytes("\x80\x00\x00\x00\x00\x00\x00\x00")},
		{sample.Bytes(eight(otherNaN)), api.KindReal, sample.Real(sample.TheNaN), sample.Bytes(eight(sample.TheNaN))},
		{sample.Bytes(ones8), api.KindReal, sample.Real(sample.TheNaN), sample.Bytes(eight(sample.TheNaN))},
		{sample.Bytes(ones8), api.KindInt, sample.Int(-1), sample.Bytes(ones8)},
		{sample.Bytes(eight(otherNaN)), api.KindInt, sample.Int(otherNaN), sample.Bytes(eight(otherNaN))},
	} {
		wantTo(t, c.v, c.kind, c.there, api.OK)
		wantTo(t, c.there, c.v.Kind, c.back, api.OK)
	}
}
