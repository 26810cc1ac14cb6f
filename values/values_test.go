package values_test

import (
	"cmp"
	"math"
	"slices"
	"strings"
	"testing"
	"unicode/utf8"

	"transom/api"
	"transom/sample"
	"transom/values"
)

// kindNames holds the names of promise 4.2, each at its kind's place.
var kindNames = []string{"null", "bool", "int", "real", "bytes", "text"}

// otherNaNs holds reals of ClassNaN that do not stand for all.
var otherNaNs = []uint64{sample.Inf | 1, 0x7ff8000000000001, 0x7fffffffffffffff, sample.Sign | sample.Inf | 1, sample.Sign | sample.TheNaN, math.MaxUint64}

// strangeKinds holds kinds that are none of api's.
var strangeKinds = []int{-1, 6, -2, 7, 8, 255, 256, 1 << 32, 1<<32 + 1, math.MaxInt, math.MinInt, math.MinInt + 1}

// sorted tells values that may be, each greater than the one ahead by promise 4.1.
func sorted() []api.Value {
	all := []api.Value{sample.Null(), sample.Bool(0), sample.Bool(1)}
	for _, n := range []int{math.MinInt, math.MinInt + 1, -1 << 53, -256, -1, 0, 1, 2, 255, 256, 1 << 53, math.MaxInt - 1, math.MaxInt} {
		all = append(all, sample.Int(n))
	}
	for _, b := range []uint64{
		sample.Sign | sample.Inf, sample.Sign | sample.Most, sample.Sign | sample.One, sample.Sign | 2, sample.Sign | 1, sample.Sign,
		0, 1, 2, sample.One, sample.One + 1, sample.Most, sample.Inf, sample.TheNaN,
	} {
		all = append(all, sample.Real(b))
	}
	x := strings.Repeat("x", 64)
	for _, s := range []string{
		"", "\x00", "\x00\x00", "\x00\x01", "\x01", "A", "a", "a\x00", "aa", "ab", "b",
		x[:63], x, "\x7f", "\x80", "\xc3", "\xc3\xa4", "\xfe", "\xff", "\xff\x00", "\xff\xff", strings.Repeat("\xff", 64),
	} {
		all = append(all, sample.Bytes(s))
	}
	for _, s := range []string{
		"", "\x00", "\x00\x00", "1", "10", "2", "A", "Z", "a", "a\x00", "aa", "ab", "b", "ba",
		x[:62], x[:63], x, "x" + "y", "\x7f", "\xc2\x80", "\xc3\xa4", "\xed\x9f\xbf", "\xee\x80\x80", "\xf4\x8f\xbf\xbf",
	} {
		all = append(all, sample.Text(s))
	}
	return all
}

// mixed tells values of all fields against each other: most of them may not be.
func mixed() []api.Value {
	kinds := []int{math.MinInt, -1, 0, 1, 2, 3, 4, 5, 6, math.MaxInt}
	ns := []int{math.MinInt, -1, 0, 1, 2, math.MaxInt}
	bits := []uint64{0, 1, sample.One, sample.Inf, sample.TheNaN, sample.Inf | 1, sample.Sign, sample.Sign | sample.TheNaN, math.MaxUint64}
	long := strings.Repeat("m", 65)
	texts := []string{"", "m", "\xff", "\xc3", "\x00", long[:63], long[:64], long, long[:63] + "\xff", long[:64] + "\xff"}
	var all []api.Value
	for _, kind := range kinds {
		for _, n := range ns {
			for _, b := range bits {
				for _, s := range texts {
					all = append(all, api.Value{Kind: kind, N: n, Bits: b, S: s})
				}
			}
		}
	}
	return all
}

// checkOf tells what promise 4.1 says of v, field by field.
func checkOf(v api.Value) api.Errno {
	if v.Kind < 0 || v.Kind > 5 {
		return api.ErrKind
	}
	hasN := v.Kind == api.KindBool || v.Kind == api.KindInt
	hasBits := v.Kind == api.KindReal
	hasS := v.Kind == api.KindBytes || v.Kind == api.KindText
	if !hasN && v.N != 0 || !hasBits && v.Bits != 0 || !hasS && v.S != "" {
		return api.ErrForm
	}
	if v.Kind == api.KindBool && v.N != 0 && v.N != 1 {
		return api.ErrRange
	}
	if hasBits && math.IsNaN(math.Float64frombits(v.Bits)) && v.Bits != sample.TheNaN {
		return api.ErrForm
	}
	if hasS && len(v.S) > 64 {
		return api.ErrLimit
	}
	if v.Kind == api.KindText && !utf8.ValidString(v.S) {
		return api.ErrText
	}
	return api.OK
}

// realOrder tells how two reals stand to each other by the machine's own numbers: -0 ahead of 0, and all NaNs behind all, at one place.
func realOrder(a, b uint64) int {
	x, y := math.Float64frombits(a), math.Float64frombits(b)
	switch {
	case math.IsNaN(x) && math.IsNaN(y):
		return 0
	case math.IsNaN(x):
		return 1
	case math.IsNaN(y):
		return -1
	case x == 0 && y == 0:
		return cmp.Compare(b, a)
	}
	return cmp.Compare(x, y)
}

// cmpOf tells what promise 4.1 says of a and b, field by field.
func cmpOf(a, b api.Value) int {
	if a.Kind != b.Kind {
		return cmp.Compare(a.Kind, b.Kind)
	}
	if a.N != b.N {
		return cmp.Compare(a.N, b.N)
	}
	if order := realOrder(a.Bits, b.Bits); order != 0 {
		return order
	}
	return slices.Compare([]byte(a.S), []byte(b.S))
}

func wantCheck(t *testing.T, v api.Value, want api.Errno) {
	t.Helper()
	if got := values.Check(v); got != want {
		t.Errorf("Check(%+v) = %d, want %d", v, got, want)
	}
}

func TestExamples(t *testing.T) {
	if got := values.Cmp(sample.Bool(0), sample.Int(0)); got != -1 {
		t.Errorf("Cmp(false, 0) = %d", got)
	}
	wantCheck(t, sample.Text("\xff"), api.ErrText)
}

func TestCheckOfValuesThatMayBe(t *testing.T) {
	for _, v := range sorted() {
		wantCheck(t, v, api.OK)
	}
}

func TestCheckOfStrangeKinds(t *testing.T) {
	for _, kind := range strangeKinds {
		for _, v := range []api.Value{{}, {N: 1}, {N: -1}, {Bits: 1}, {Bits: sample.Inf | 1}, {S: "s"}, {S: "\xff"}, {N: 2, Bits: 2, S: strings.Repeat("s", 65)}} {
			v.Kind = kind
			wantCheck(t, v, api.ErrKind)
		}
	}
}

// Each kind with a value that may be, and that value with one field more that its kind does not have.
func TestCheckOfFieldsThatAKindDoesNotHave(t *testing.T) {
	ns := []int{1, -1, 2, math.MinInt, math.MaxInt}
	bits := []uint64{1, sample.One, sample.Sign, sample.Inf, sample.TheNaN, sample.Inf | 1}
	texts := []string{"s", "\x00", "\xff", strings.Repeat("s", 65)}
	for _, v := range []api.Value{
		sample.Null(), sample.Bool(0), sample.Bool(1), sample.Int(0), sample.Int(7), sample.Real(0), sample.Real(sample.One), sample.Bytes(""), sample.Bytes("o"), sample.Text(""), sample.Text("t"),
	} {
		wantCheck(t, v, api.OK)
		hasN := v.Kind == api.KindBool || v.Kind == api.KindInt
		hasBits := v.Kind == api.KindReal
		hasS := v.Kind == api.KindBytes || v.Kind == api.KindText
		for _, n := range ns {
			if w := v; !hasN {
				w.N = n
				wantCheck(t, w, api.ErrForm)
			}
		}
		for _, b := range bits {
			if w := v; !hasBits {
				w.Bits = b
				wantCheck(t, w, api.ErrForm)
			}
		}
		for _, s := range texts {
			if w := v; !hasS {
				w.S = s
				wantCheck(t, w, api.ErrForm)
			}
		}
	}
}

func TestCheckOfTruths(t *testing.T) {
	for _, n := range []int{-1, 2, 3, 256, 1 << 32, 1<<32 + 1, math.MinInt, math.MinInt + 1, math.MaxInt} {
		wantCheck(t, sample.Bool(n), api.ErrRange)
		wantCheck(t, sample.Int(n), api.OK)
	}
}

func TestCheckOfOtherNaNs(t *testing.T) {
	for _, b := range otherNaNs {
		wantCheck(t, sample.Real(b), api.ErrForm)
	}
}

func TestCheckOfSizes(t *testing.T) {
	for _, c := range []struct {
		size int
		want api.Errno
	}{
		{0, api.OK}, {1, api.OK}, {63, api.OK}, {64, api.OK}, {65, api.ErrLimit}, {66, api.ErrLimit}, {128, api.ErrLimit}, {1 << 16, api.ErrLimit},
	} {
		wantCheck(t, sample.Bytes(strings.Repeat("\xff", c.size)), c.want)
		wantCheck(t, sample.Text(strings.Repeat("t", c.size)), c.want)
	}
	// The limit is one of bytes, not of characters.
	wantCheck(t, sample.Text(strings.Repeat("\xc3\xa4", 32)), api.OK)
	wantCheck(t, sample.Text(strings.Repeat("\xc3\xa4", 32)+"a"), api.ErrLimit)
	wantCheck(t, sample.Text(strings.Repeat("\xc3\xa4", 33)), api.ErrLimit)
}

func TestCheckOfTextsThatAreNone(t *testing.T) {
	for _, s := range []string{
		"\x80", "\xff", "\xc3", "\xc0\x80", "a\xff", "\xffa", "\xed\xa0\x80", "\xf4\x90\x80\x80", "\xe2\x82",
		strings.Repeat("t", 63) + "\xc3",
	} {
		wantCheck(t, sample.Text(s), api.ErrText)
		wantCheck(t, sample.Bytes(s), api.OK)
	}
}

func TestCheckOfTwoFaultsTellsTheFirst(t *testing.T) {
	long := strings.Repeat("l", 64) + "\xff"
	for _, c := range []struct {
		v    api.Value
		want api.Errno
	}{
		{api.Value{Kind: -1, N: 1, Bits: sample.Inf | 1, S: long}, api.ErrKind},
		{api.Value{Kind: 6, N: 2, Bits: sample.Inf | 1, S: long}, api.ErrKind},
		{api.Value{Kind: api.KindBool, N: 2, Bits: 1}, api.ErrForm},
		{api.Value{Kind: api.KindBool, N: -1, S: "s"}, api.ErrForm},
		{api.Value{Kind: api.KindReal, N: 1, Bits: sample.Inf | 1}, api.ErrForm},
		{api.Value{Kind: api.KindBytes, N: 1, S: long}, api.ErrForm},
		{api.Value{Kind: api.KindBytes, Bits: 1, S: long}, api.ErrForm},
		{api.Value{Kind: api.KindText, N: 1, S: "\xff"}, api.ErrForm},
		{api.Value{Kind: api.KindText, Bits: 1, S: long}, api.ErrForm},
		{api.Value{Kind: api.KindText, S: long}, api.ErrLimit},
		{api.Value{Kind: api.KindText, S: strings.Repeat("\xff", 65)}, api.ErrLimit},
		{api.Value{Kind: api.KindText, S: strings.Repeat("\xff", 64)}, api.ErrText},
	} {
		wantCheck(t, c.v, c.want)
	}
}

// The tests of the layers above lean on these values, and on their errors.
func TestCheckOfRefused(t *testing.T) {
	for _, c := range sample.Refused() {
		wantCheck(t, c.Value, c.Err)
	}
}

func TestCheckOfMixed(t *testing.T) {
	for _, v := range mixed() {
		wantCheck(t, v, checkOf(v))
	}
}

func TestSameOfSorted(t *testing.T) {
	all := sorted()
	for i, a := range all {
		for j, b := range all {
			if got := values.Same(a, b); got != (i == j) {
				t.Errorf("Same(%+v, %+v) = %t", a, b, got)
			}
		}
	}
}

// Two values that differ in one field alone are not the same, whatever their kind, and stand in that field's order.
func TestSameAndCmpOfOneField(t *testing.T) {
	for _, v := range mixed() {
		if !values.Same(v, v) || values.Cmp(v, v) != 0 {
			t.Fatalf("%+v is not the same as itself", v)
		}
		// A text of the same bytes that stands elsewhere is the same.
		twin := v
		twin.S = string([]byte(v.S))
		if !values.Same(v, twin) || values.Cmp(v, twin) != 0 {
			t.Fatalf("%+v is not the same as its twin", v)
		}
		kind, n, bits, s := v, v, v, v
		kind.Kind ^= 1
		n.N ^= 1
		bits.Bits ^= 1
		s.S += "\x00"
		for _, w := range []api.Value{kind, n, bits, s} {
			if values.Same(v, w) || values.Same(w, v) {
				t.Fatalf("Same(%+v, %+v)", v, w)
			}
			want := cmpOf(v, w)
			if values.Cmp(v, w) != want || values.Cmp(w, v) != -want {
				t.Fatalf("Cmp(%+v, %+v) = %d, and %d the other way round, want %d", v, w, values.Cmp(v, w), values.Cmp(w, v), want)
			}
		}
	}
}

// All reals of ClassNaN are one for Cmp, but not the same for Same.
func TestSameAndCmpOfNaNs(t *testing.T) {
	all := append(slices.Clone(otherNaNs), sample.TheNaN)
	for _, a := range all {
		for _, b := range all {
			if got := values.Cmp(sample.Real(a), sample.Real(b)); got != 0 {
				t.Errorf("Cmp of NaNs %#x and %#x = %d", a, b, got)
			}
			if got := values.Same(sample.Real(a), sample.Real(b)); got != (a == b) {
				t.Errorf("Same of NaNs %#x and %#x = %t", a, b, got)
			}
			x, y := sample.Real(a), sample.Real(b)
			x.S, y.S = "a", "b"
			if got := values.Cmp(x, y); got != -1 {
				t.Errorf("Cmp(%+v, %+v) = %d", x, y, got)
			}
		}
	}
}

func TestSameOfTheTwoZeros(t *testing.T) {
	if values.Same(sample.Real(0), sample.Real(sample.Sign)) {
		t.Error("0 and -0 are the same")
	}
	if got := values.Cmp(sample.Real(sample.Sign), sample.Real(0)); got != -1 {
		t.Errorf("Cmp(-0, 0) = %d", got)
	}
}

// Values of two kinds with the same fields differ, and stand in the order of their kinds.
func TestSameAndCmpOfTwoKinds(t *testing.T) {
	fields := []api.Value{{}, {N: 1}, {Bits: sample.One}, {S: "s"}, {N: 1, Bits: sample.One, S: "s"}}
	kinds := append([]int{0, 1, 2, 3, 4, 5}, strangeKinds...)
	for _, f := range fields {
		for _, i := range kinds {
			for _, j := range kinds {
				a, b := f, f
				a.Kind, b.Kind = i, j
				if got := values.Same(a, b); got != (i == j) {
					t.Errorf("Same(%+v, %+v) = %t", a, b, got)
				}
				if got := values.Cmp(a, b); got != cmp.Compare(i, j) {
					t.Errorf("Cmp(%+v, %+v) = %d", a, b, got)
				}
			}
		}
	}
}

func TestCmpOfSorted(t *testing.T) {
	all := sorted()
	for i, a := range all {
		for j, b := range all {
			if got, want := values.Cmp(a, b), cmp.Compare(i, j); got != want {
				t.Errorf("Cmp(%+v, %+v) = %d, want %d", a, b, got, want)
			}
		}
	}
}

// A field decides over all that stand behind it: Kind over N, N over Bits, Bits over S.
func TestCmpOfMixed(t *testing.T) {
	all := mixed()
	for i, a := range all {
		for step := range 20 {
			b := all[(i*7919+step*1237+13)%len(all)]
			if got, want := values.Cmp(a, b), cmpOf(a, b); got != want {
				t.Fatalf("Cmp(%+v, %+v) = %d, want %d", a, b, got, want)
			}
		}
	}
}

func TestCmpOfFieldsAgainstEachOther(t *testing.T) {
	for _, c := range []struct{ less, more api.Value }{
		{api.Value{Kind: 1, N: 9, Bits: 9, S: "9"}, api.Value{Kind: 2}},
		{api.Value{Kind: 2, N: 8, Bits: 9, S: "9"}, api.Value{Kind: 2, N: 9}},
		{api.Value{Kind: 2, N: 8, Bits: sample.Sign | 1, S: "9"}, api.Value{Kind: 2, N: 8}},
		{api.Value{Kind: 2, N: 8, Bits: 8, S: "8"}, api.Value{Kind: 2, N: 8, Bits: 8, S: "9"}},
	} {
		if values.Cmp(c.less, c.more) != -1 || values.Cmp(c.more, c.less) != 1 {
			t.Errorf("Cmp(%+v, %+v) = %d, and %d the other way round", c.less, c.more, values.Cmp(c.less, c.more), values.Cmp(c.more, c.less))
		}
	}
}

func TestZero(t *testing.T) {
	for kind, want := range []api.Value{sample.Null(), sample.Bool(0), sample.Int(0), sample.Real(0), sample.Bytes(""), sample.Text("")} {
		got, err := values.Zero(kind)
		if got != want || err != api.OK {
			t.Errorf("Zero(%d) = %+v, %d", kind, got, err)
		}
		wantCheck(t, got, api.OK)
	}
	for _, kind := range strangeKinds {
		if got, err := values.Zero(kind); got != (api.Value{}) || err != api.ErrKind {
			t.Errorf("Zero(%d) = %+v, %d", kind, got, err)
		}
	}
}

func TestNameAndKind(t *testing.T) {
	for kind, name := range kindNames {
		if got := values.Name(kind); got != name {
			t.Errorf("Name(%d) = %q, want %q", kind, got, name)
		}
		if got := values.Kind(name); got != kind {
			t.Errorf("Kind(%q) = %d, want %d", name, got, kind)
		}
	}
	for _, kind := range strangeKinds {
		if got := values.Name(kind); got != "" {
			t.Errorf("Name(%d) = %q", kind, got)
		}
	}
}

func TestKindOfStrangeNames(t *testing.T) {
	strange := []string{"", " ", "x", "nil", "byte", "string", "float", "integer", "boolean", "0", "nulls", "textt", "in", "\xff", "\x00"}
	for _, name := range kindNames {
		strange = append(strange,
			strings.ToUpper(name), strings.ToUpper(name[:1])+name[1:], name[:len(name)-1]+strings.ToUpper(name[len(name)-1:]),
			" "+name, name+" ", name+"\n", name+"\x00", name[1:], name[:len(name)-1], name+name, name[:1]+" "+name[1:])
	}
	for _, name := range strange {
		if got := values.Kind(name); got != -1 {
			t.Errorf("Kind(%q) = %d", name, got)
		}
	}
}
