package reals_test

import (
	"cmp"
	"math"
	"math/big"
	"slices"
	"testing"

	"transom/api"
	"transom/reals"
)

const (
	sign    = 1 << 63
	theNaN  = 0x7ff8000000000000
	inf     = 0x7ff0000000000000
	largest = 0x7fefffffffffffff
	least   = 0x0010000000000000 // the least of ClassNormal
	small   = 0x000fffffffffffff // the greatest of ClassSmall
)

// sorted holds reals in the order of promise 2.2, each of them one number (or NaN) further than the one ahead.
var sorted = []uint64{
	sign | inf,
	sign | largest,
	0xc3f0000000000000, // -2^64
	0xc3e0000000000001, // the one below -2^63
	0xc3e0000000000000, // -2^63
	0xc3dfffffffffffff, // the one above -2^63
	0xc340000000000001, // -2^53 - 2
	0xc340000000000000, // -2^53
	0xc33fffffffffffff, // -2^53 + 1
	0xc008000000000000, // -3
	0xbff8000000000000, // -1.5
	0xbff0000000000000, // -1
	0xbfe0000000000000, // -0.5
	sign | least,
	sign | small,
	sign | 2,
	sign | 1,
	sign,
	0,
	1,
	2,
	small,
	least,
	0x3fe0000000000000, // 0.5
	0x3fefffffffffffff, // the one below 1
	0x3ff0000000000000, // 1
	0x3ff0000000000001, // the one above 1
	0x3ff8000000000000, // 1.5
	0x4008000000000000, // 3
	0x432fffffffffffff, // 2^52 - 0.5
	0x4330000000000000, // 2^52
	0x433fffffffffffff, // 2^53 - 1
	0x4340000000000000, // 2^53
	0x4340000000000001, // 2^53 + 2
	0x43dfffffffffffff, // the one below 2^63
	0x43e0000000000000, // 2^63
	0x43e0000000000001, // the one above 2^63
	0x43f0000000000000, // 2^64
	0x47f0000000000000, // 2^128
	largest,
	inf,
	theNaN,
}

// nans holds reals of ClassNaN, of both signs, that are not in Canon.
var nans = []uint64{
	inf | 1,
	0x7ff7ffffffffffff,
	0x7ff8000000000001,
	0x7fffffffffffffff,
	sign | inf | 1,
	0xfff7ffffffffffff,
	sign | theNaN,
	0xfff8000000000001,
	0xffffffffffffffff,
}

// many tells reals of every exponent and both signs, with fractions of which only few bits, or all, stand.
func many() []uint64 {
	fractions := []uint64{0, 1<<52 - 1, 1<<51 - 1, 1<<51 + 1, 0x5555555555555, 0xaaaaaaaaaaaaa, 0xffffffff, 0xfffff00000000}
	for i := range 52 {
		fractions = append(fractions, 1<<i, (1<<52-1)<<i&(1<<52-1), 1<<i-1)
	}
	var all []uint64
	for exponent := range uint64(2048) {
		for _, fraction := range fractions {
			b := exponent<<52 | fraction
			all = append(all, b, b|sign)
		}
	}
	return slices.Concat(all, nans, sorted)
}

func TestExamples(t *testing.T) {
	if got := reals.Class(1); got != api.ClassSmall {
		t.Errorf("Class(1) = %d", got)
	}
	if b, ok := reals.FromInt(1); b != 0x3ff0000000000000 || !ok {
		t.Errorf("FromInt(1) = %#x, %t", b, ok)
	}
	if b, ok := reals.FromInt(1<<53 + 1); b != 0 || ok {
		t.Errorf("FromInt(2^53 + 1) = %#x, %t", b, ok)
	}
	if n, ok := reals.ToInt(sign); n != 0 || !ok {
		t.Errorf("ToInt(-0) = %d, %t", n, ok)
	}
}

func TestClassAtTheEdges(t *testing.T) {
	for _, c := range []struct {
		b    uint64
		want int
	}{
		{0, api.ClassZero},
		{1, api.ClassSmall},
		{1 << 51, api.ClassSmall},
		{small, api.ClassSmall},
		{least, api.ClassNormal},
		{0x3ff0000000000000, api.ClassNormal},
		{0x7fe0000000000000, api.ClassNormal},
		{largest, api.ClassNormal},
		{inf, api.ClassInf},
		{inf | 1, api.ClassNaN},
		{0x7ff7ffffffffffff, api.ClassNaN},
		{theNaN, api.ClassNaN},
		{0x7fffffffffffffff, api.ClassNaN},
	} {
		for _, b := range []uint64{c.b, c.b | sign} {
			if got := reals.Class(b); got != c.want {
				t.Errorf("Class(%#x) = %d, want %d", b, got, c.want)
			}
		}
	}
}

// classOf tells the class by the machine's own numbers.
func classOf(b uint64) int {
	f := math.Float64frombits(b)
	switch {
	case math.IsNaN(f):
		return api.ClassNaN
	case math.IsInf(f, 0):
		return api.ClassInf
	case f == 0:
		return api.ClassZero
	case math.Abs(f) < 0x1p-1022:
		return api.ClassSmall
	}
	return api.ClassNormal
}

func TestClassAndCanonOfMany(t *testing.T) {
	for _, b := range many() {
		class := classOf(b)
		if got := reals.Class(b); got != class {
			t.Fatalf("Class(%#x) = %d, want %d", b, got, class)
		}
		want := b
		if class == api.ClassNaN {
			want = theNaN
		}
		if got := reals.Canon(b); got != want {
			t.Fatalf("Canon(%#x) = %#x, want %#x", b, got, want)
		}
	}
}

func TestKeyAtTheEdges(t *testing.T) {
	for _, c := range []struct{ b, want uint64 }{
		{sign | inf, 0x000fffffffffffff},
		{sign | largest, 0x0010000000000000},
		{0xbff0000000000000, 0x400fffffffffffff},
		{sign | 1, 0x7ffffffffffffffe},
		{sign, 0x7fffffffffffffff},
		{0, 0x8000000000000000},
		{1, 0x8000000000000001},
		{0x3ff0000000000000, 0xbff0000000000000},
		{inf, 0xfff0000000000000},
		{theNaN, 0xfff8000000000000},
		{inf | 1, 0xfff8000000000000},
		{sign | inf | 1, 0xfff8000000000000},
		{0xffffffffffffffff, 0xfff8000000000000},
	} {
		if got := reals.Key(c.b); got != c.want {
			t.Errorf("Key(%#x) = %#x, want %#x", c.b, got, c.want)
		}
	}
}

func TestBackIsKeyTurnedRound(t *testing.T) {
	for _, b := range many() {
		got, ok := reals.Back(reals.Key(b))
		if got != reals.Canon(b) || !ok {
			t.Fatalf("Back(Key(%#x)) = %#x, %t", b, got, ok)
		}
	}
}

func TestBackOfKeysThatNoRealHas(t *testing.T) {
	for _, k := range []uint64{
		0,
		1,
		0x0007ffffffffffff, // where NaN of the other sign would stand
		0x0008000000000000,
		0x000ffffffffffffe,
		0xfff0000000000001,
		0xfff7ffffffffffff,
		0xfff8000000000001,
		0xffffffffffffffff,
	} {
		if b, ok := reals.Back(k); b != 0 || ok {
			t.Errorf("Back(%#x) = %#x, %t", k, b, ok)
		}
	}
}

func TestBackBesideTheEdges(t *testing.T) {
	for _, c := range []struct{ k, want uint64 }{
		{0x000fffffffffffff, sign | inf},
		{0x7fffffffffffffff, sign},
		{0x8000000000000000, 0},
		{0xfff0000000000000, inf},
		{0xfff8000000000000, theNaN},
	} {
		if b, ok := reals.Back(c.k); b != c.want || !ok {
			t.Errorf("Back(%#x) = %#x, %t, want %#x", c.k, b, ok, c.want)
		}
	}
}

// Whatever Back answers has the key that it was asked for.
func TestBackAnswersOnlyKeys(t *testing.T) {
	for _, k := range many() {
		b, ok := reals.Back(k)
		if ok && reals.Key(b) != k {
			t.Fatalf("Back(%#x) = %#x, whose Key is %#x", k, b, reals.Key(b))
		}
		if !ok && b != 0 {
			t.Fatalf("Back(%#x) = %#x, false", k, b)
		}
	}
}

func TestCmpAndKeysOfSorted(t *testing.T) {
	for i, a := range sorted {
		for j, b := range sorted {
			want := cmp.Compare(i, j)
			if got := reals.Cmp(a, b); got != want {
				t.Errorf("Cmp(%#x, %#x) = %d, want %d", a, b, got, want)
			}
			if got := cmp.Compare(reals.Key(a), reals.Key(b)); got != want {
				t.Errorf("Keys of %#x and %#x stand as %d, want %d", a, b, got, want)
			}
		}
	}
}

func TestCmpOfNaNs(t *testing.T) {
	for _, a := range append(slices.Clone(nans), theNaN) {
		for _, b := range nans {
			if got := reals.Cmp(a, b); got != 0 {
				t.Errorf("Cmp(%#x, %#x) = %d", a, b, got)
			}
		}
		for _, b := range sorted[:len(sorted)-1] {
			if reals.Cmp(a, b) != 1 || reals.Cmp(b, a) != -1 {
				t.Errorf("Cmp of NaN %#x and %#x: %d, %d", a, b, reals.Cmp(a, b), reals.Cmp(b, a))
			}
		}
	}
}

// Two reals that differ in one bit alone, each bit once: no byte of them is passed over.
func TestCmpAndEqualOfOneBit(t *testing.T) {
	for i := range 62 {
		for _, high := range []uint64{0, sign} {
			a := high | 0x1555555555555555
			b := a ^ 1<<i
			x, y := math.Float64frombits(a), math.Float64frombits(b)
			want := cmp.Compare(x, y)
			if reals.Cmp(a, b) != want || reals.Cmp(b, a) != -want {
				t.Errorf("Cmp(%#x, %#x) = %d, want %d", a, b, reals.Cmp(a, b), want)
			}
			if reals.Equal(a, b) {
				t.Errorf("Equal(%#x, %#x)", a, b)
			}
		}
	}
}

// Pairs from all over: the first bytes that differ decide, whatever stands behind them.
func TestCmpOfManyAgainstTheMachine(t *testing.T) {
	all := many()
	for i, a := range all {
		b := all[(i*7919+13)%len(all)]
		x, y := math.Float64frombits(a), math.Float64frombits(b)
		if math.IsNaN(x) || math.IsNaN(y) || x == 0 && y == 0 {
			continue
		}
		if got, want := reals.Cmp(a, b), cmp.Compare(x, y); got != want {
			t.Fatalf("Cmp(%#x, %#x) = %d, want %d", a, b, got, want)
		}
	}
}

func TestEqual(t *testing.T) {
	all := slices.Concat(nans, sorted)
	for _, a := range all {
		for _, b := range all {
			want := math.Float64frombits(a) == math.Float64frombits(b)
			if got := reals.Equal(a, b); got != want {
				t.Errorf("Equal(%#x, %#x) = %t, want %t", a, b, got, want)
			}
		}
	}
}

func TestEqualOfManyWithThemselves(t *testing.T) {
	for _, b := range many() {
		if got, want := reals.Equal(b, b), classOf(b) != api.ClassNaN; got != want {
			t.Fatalf("Equal(%#x, itself) = %t, want %t", b, got, want)
		}
	}
}

func TestFromIntAtTheEdges(t *testing.T) {
	for _, c := range []struct {
		n    int
		want uint64
		ok   bool
	}{
		{0, 0, true},
		{1, 0x3ff0000000000000, true},
		{-1, 0xbff0000000000000, true},
		{2, 0x4000000000000000, true},
		{3, 0x4008000000000000, true},
		{-3, 0xc008000000000000, true},
		{5, 0x4014000000000000, true},
		{1<<52 - 1, 0x432ffffffffffffe, true},
		{1 << 52, 0x4330000000000000, true},
		{1<<52 + 1, 0x4330000000000001, true},
		{1<<53 - 1, 0x433fffffffffffff, true},
		{1 << 53, 0x4340000000000000, true},
		{1<<53 + 1, 0, false},
		{1<<53 + 2, 0x4340000000000001, true},
		{1<<53 + 3, 0, false},
		{-1<<53 + 1, 0xc33fffffffffffff, true},
		{-1 << 53, 0xc340000000000000, true},
		{-1<<53 - 1, 0, false},
		{-1<<53 - 2, 0xc340000000000001, true},
		{1<<54 - 2, 0x434fffffffffffff, true},
		{1<<54 - 1, 0, false},
		{1<<54 + 2, 0, false},
		{1<<54 + 4, 0x4350000000000001, true},
		{1<<62 + 1<<10, 0x43d0000000000001, true},
		{1<<62 + 1<<9, 0, false},
		{1<<63 - 1024, 0x43dfffffffffffff, true},
		{1<<63 - 512, 0, false},
		{1<<63 - 1, 0, false},
		{-1<<63 + 1024, 0xc3dfffffffffffff, true},
		{-1<<63 + 512, 0, false},
		{-1<<63 + 1, 0, false},
		{-1 << 63, 0xc3e0000000000000, true},
	} {
		if b, ok := reals.FromInt(c.n); b != c.want || ok != c.ok {
			t.Errorf("FromInt(%d) = %#x, %t, want %#x, %t", c.n, b, ok, c.want, c.ok)
		}
	}
}

func TestToIntAtTheEdges(t *testing.T) {
	for _, c := range []struct {
		b    uint64
		want int
		ok   bool
	}{
		{0, 0, true},
		{sign, 0, true},
		{1, 0, false},
		{sign | 1, 0, false},
		{small, 0, false},
		{least, 0, false},
		{0x3fe0000000000000, 0, false},
		{0x3fefffffffffffff, 0, false},
		{0x3ff0000000000000, 1, true},
		{0x3ff0000000000001, 0, false},
		{0x3ff8000000000000, 0, false},
		{0xbff8000000000000, 0, false},
		{0xc008000000000000, -3, true},
		{0x4008000000000000, 3, true},
		{0x432fffffffffffff, 0, false},
		{0x432ffffffffffffe, 1<<52 - 1, true},
		{0x4330000000000001, 1<<52 + 1, true},
		{0x433fffffffffffff, 1<<53 - 1, true},
		{0x4340000000000000, 1 << 53, true},
		{0x4340000000000001, 1<<53 + 2, true},
		{0xc340000000000001, -1<<53 - 2, true},
		{0x43dfffffffffffff, 1<<63 - 1024, true},
		{0x43e0000000000000, 0, false},
		{0x43e0000000000001, 0, false},
		{0x43efffffffffffff, 0, false},
		{0x43f0000000000000, 0, false},
		{0xc3dfffffffffffff, -1<<63 + 1024, true},
		{0xc3e0000000000000, -1 << 63, true},
		{0xc3e0000000000001, 0, false},
		{0xc3efffffffffffff, 0, false},
		{0xc3f0000000000000, 0, false},
		{0xc3f0000000000001, 0, false},
		{largest, 0, false},
		{sign | largest, 0, false},
		{inf, 0, false},
		{sign | inf, 0, false},
		{theNaN, 0, false},
		{sign | theNaN, 0, false},
		{0xffffffffffffffff, 0, false},
	} {
		if n, ok := reals.ToInt(c.b); n != c.want || ok != c.ok {
			t.Errorf("ToInt(%#x) = %d, %t, want %d, %t", c.b, n, ok, c.want, c.ok)
		}
	}
}

// intOf tells the number of a real by the library's numbers without bounds.
func intOf(b uint64) (int, bool) {
	f := math.Float64frombits(b)
	if math.IsNaN(f) || math.IsInf(f, 0) {
		return 0, false
	}
	whole, left := new(big.Float).SetFloat64(f).Int(nil)
	if left != big.Exact || !whole.IsInt64() {
		return 0, false
	}
	return int(whole.Int64()), true
}

func TestToIntOfMany(t *testing.T) {
	for _, b := range many() {
		want, is := intOf(b)
		if n, ok := reals.ToInt(b); n != want || ok != is {
			t.Fatalf("ToInt(%#x) = %d, %t, want %d, %t", b, n, ok, want, is)
		}
	}
}

// ints tells numbers of every length, at and beside the powers of 2 and their sums, and both signs of each.
func ints() []int {
	all := []int{0, api.MaxInt, api.MinInt, api.MinInt + 1}
	for i := range 63 {
		for j := range 63 {
			for _, n := range []int{1 << i, 1<<i + 1<<j, 1<<i - 1<<j, 1<<i + 1<<j - 1, 1<<i + 1<<j + 1} {
				all = append(all, n, -n)
			}
		}
	}
	for n := range 5000 {
		all = append(all, n, -n, 1<<53-2500+n, -1<<53-2500+n, api.MaxInt-n, api.MinInt+n)
	}
	return all
}

func TestFromIntOfMany(t *testing.T) {
	for _, n := range ints() {
		f, about := new(big.Float).SetInt64(int64(n)).Float64()
		want, is := math.Float64bits(f), about == big.Exact
		if !is {
			want = 0
		}
		if b, ok := reals.FromInt(n); b != want || ok != is {
			t.Fatalf("FromInt(%d) = %#x, %t, want %#x, %t", n, b, ok, want, is)
		}
	}
}

func TestToIntOfFromIntIsTheNumber(t *testing.T) {
	for _, n := range ints() {
		b, ok := reals.FromInt(n)
		if !ok {
			continue
		}
		if m, is := reals.ToInt(b); m != n || !is {
			t.Fatalf("ToInt(FromInt(%d)) = %d, %t", n, m, is)
		}
	}
}

func TestTheLesserNumberHasTheLesserKey(t *testing.T) {
	all := ints()
	slices.Sort(all)
	all = slices.Compact(all)
	last, known := uint64(0), false
	for _, n := range all {
		b, ok := reals.FromInt(n)
		if !ok {
			continue
		}
		k := reals.Key(b)
		if known && k <= last {
			t.Fatalf("Key(FromInt(%d)) = %#x is not above %#x", n, k, last)
		}
		last, known = k, true
	}
}
