package ints

import (
	"math"
	"math/big"
	"strings"
	"testing"

	"tailwater/api"
)

// operators are all kinds that Do takes.
var operators = []uint8{
	api.NoNeg, api.NoNot, api.NoMul, api.NoAdd, api.NoSub, api.NoShl, api.NoShr, api.NoLess,
	api.NoAtMost, api.NoMore, api.NoLeast, api.NoEqual, api.NoOther, api.NoAnd, api.NoOr,
}

// samples are numbers around 0, the powers of two that shifts and products care about, and the ends.
func samples() []int64 {
	l := []int64{
		math.MinInt64, math.MinInt64 + 1, math.MaxInt64 - 1, math.MaxInt64,
		6148914691236517205, -6148914691236517206, 3037000500, -3037000500, 1234567890123456789,
	}
	for n := int64(-5); n <= 5; n++ {
		l = append(l, n)
	}
	for _, p := range []int64{31, 32, 62, 63, 64, 65, 127, 128, 1 << 31, 1 << 32, 1 << 62} {
		l = append(l, p, -p)
	}
	return l
}

func do(t *testing.T, kind uint8, a, b int64) int64 {
	t.Helper()
	n, e := Do(kind, a, b)
	if e != api.OK {
		t.Fatalf("Do(%d, %d, %d): error %d", kind, a, b, e)
	}
	return n
}

// wrapped returns the number that differs from a whole number by a multiple of 2^64.
func wrapped(x *big.Int) int64 {
	turn := new(big.Int).Lsh(big.NewInt(1), 64)
	r := new(big.Int).Mod(x, turn)
	if r.Cmp(big.NewInt(math.MaxInt64)) > 0 {
		r.Sub(r, turn)
	}
	return r.Int64()
}

// power returns 2 to the power of b modulo 64.
func power(b int64) *big.Int {
	r := new(big.Int).Mod(big.NewInt(b), big.NewInt(64))
	return new(big.Int).Exp(big.NewInt(2), r, nil)
}

// wanted returns what an operator gives, by whole numbers of any size.
func wanted(kind uint8, a, b int64) int64 {
	x, y, z := big.NewInt(a), big.NewInt(b), new(big.Int)
	c := x.Cmp(y)
	holds := false
	switch kind {
	case api.NoNeg:
		return wrapped(z.Neg(x))
	case api.NoMul:
		return wrapped(z.Mul(x, y))
	case api.NoAdd:
		return wrapped(z.Add(x, y))
	case api.NoSub:
		return wrapped(z.Sub(x, y))
	case api.NoShl:
		return wrapped(z.Mul(x, power(b)))
	case api.NoShr:
		return z.Div(x, power(b)).Int64() // rounds down, as the divisor is positive
	case api.NoNot:
		holds = x.Sign() == 0
	case api.NoLess:
		holds = c < 0
	case api.NoAtMost:
		holds = c <= 0
	case api.NoMore:
		holds = c > 0
	case api.NoLeast:
		holds = c >= 0
	case api.NoEqual:
		holds = c == 0
	case api.NoOther:
		holds = c != 0
	case api.NoAnd:
		holds = x.Sign() != 0 && y.Sign() != 0
	case api.NoOr:
		holds = x.Sign() != 0 || y.Sign() != 0
	}
	if holds {
		return 1
	}
	return 0
}

// P1.1: the examples of the chapter, and every operator by hand.
func TestDoGivesWhatTheChapterSays(t *testing.T) {
	const least, most = math.MinInt64, math.MaxInt64
	for _, x := range []struct {
		kind       uint8
		a, b, want int64
	}{
		{api.NoAdd, most, 1, least}, {api.NoAdd, least, -1, most}, {api.NoAdd, least, least, 0}, {api.NoAdd, 2, 3, 5},
		{api.NoSub, least, 1, most}, {api.NoSub, most, -1, least}, {api.NoSub, 0, least, least}, {api.NoSub, 2, 3, -1},
		{api.NoMul, most, 2, -2}, {api.NoMul, least, -1, least}, {api.NoMul, least, 2, 0}, {api.NoMul, most, most, 1}, {api.NoMul, -4, 5, -20},
		{api.NoNeg, least, 0, least}, {api.NoNeg, most, 0, least + 1}, {api.NoNeg, 7, 9, -7}, {api.NoNeg, 0, 3, 0},
		{api.NoNot, 0, 1, 1}, {api.NoNot, 1, 0, 0}, {api.NoNot, -1, 0, 0}, {api.NoNot, least, 0, 0},
		{api.NoShl, 1, 65, 2}, {api.NoShl, 1, 63, least}, {api.NoShl, 1, 64, 1}, {api.NoShl, 3, 63, least}, {api.NoShl, 2, 63, 0},
		{api.NoShl, 1, -1, least}, {api.NoShl, 1, -63, 2}, {api.NoShl, 5, -64, 5}, {api.NoShl, -5, 1, -10}, {api.NoShl, 5, most, least}, {api.NoShl, 5, least, 5},
		{api.NoShr, -5, 1, -3}, {api.NoShr, -5, -1, -1}, {api.NoShr, 5, -1, 0}, {api.NoShr, 5, 1, 2}, {api.NoShr, -5, 64, -5}, {api.NoShr, -5, 65, -3},
		{api.NoShr, least, 63, -1}, {api.NoShr, most, 62, 1}, {api.NoShr, most, 63, 0}, {api.NoShr, -1, 63, -1}, {api.NoShr, -5, least, -5}, {api.NoShr, -5, most, -1},
		{api.NoLess, least, most, 1}, {api.NoLess, most, least, 0}, {api.NoLess, 2, 2, 0},
		{api.NoAtMost, least, most, 1}, {api.NoAtMost, most, least, 0}, {api.NoAtMost, 2, 2, 1},
		{api.NoMore, most, least, 1}, {api.NoMore, least, most, 0}, {api.NoMore, 2, 2, 0},
		{api.NoLeast, most, least, 1}, {api.NoLeast, least, most, 0}, {api.NoLeast, 2, 2, 1},
		{api.NoEqual, least, least, 1}, {api.NoEqual, least, most, 0}, {api.NoOther, least, least, 0}, {api.NoOther, least, most, 1},
		{api.NoAnd, 2, 4, 1}, {api.NoAnd, -1, least, 1}, {api.NoAnd, 5, 0, 0}, {api.NoAnd, 0, 5, 0}, {api.NoAnd, 0, 0, 0},
		{api.NoOr, 2, 4, 1}, {api.NoOr, -1, 1, 1}, {api.NoOr, 5, 0, 1}, {api.NoOr, 0, 5, 1}, {api.NoOr, 0, 0, 0},
	} {
		if n, e := Do(x.kind, x.a, x.b); n != x.want || e != api.OK {
			t.Errorf("Do(%d, %d, %d) = %d, %d; want %d", x.kind, x.a, x.b, n, e, x.want)
		}
	}
}

// P1.1: every operator, by whole numbers of any size.
func TestDoWraps(t *testing.T) {
	l := samples()
	for _, kind := range operators {
		for _, a := range l {
			for _, b := range l {
				if n, w := do(t, kind, a, b), wanted(kind, a, b); n != w {
					t.Errorf("Do(%d, %d, %d) = %d; want %d", kind, a, b, n, w)
				}
			}
		}
	}
}

// P1.1: every shift from -200 to 200.
func TestShiftsAreModulo64(t *testing.T) {
	for b := int64(-200); b <= 200; b++ {
		for _, a := range samples() {
			for _, kind := range []uint8{api.NoShl, api.NoShr} {
				if n, w := do(t, kind, a, b), wanted(kind, a, b); n != w {
					t.Errorf("Do(%d, %d, %d) = %d; want %d", kind, a, b, n, w)
				}
			}
		}
	}
}

// P1.1, and R1: all kinds that are no operators, with no number beside the error.
func TestDoRefusesOtherKinds(t *testing.T) {
	for k := range 256 {
		kind := uint8(k)
		want := api.ErrArg
		if kind >= 5 && kind <= 19 {
			want = api.OK
		}
		for _, a := range []int64{math.MinInt64, -1, 0, 1, 2, math.MaxInt64} {
			n, e := Do(kind, a, 3)
			if e != want || e != api.OK && n != 0 {
				t.Errorf("Do(%d, %d, 3) = %d, %d; want error %d", kind, a, n, e, want)
			}
		}
	}
}

// P1.2.
func TestTextIsTheShortestOne(t *testing.T) {
	for _, x := range []struct {
		n    int64
		want string
	}{
		{0, "0"}, {7, "7"}, {-7, "-7"}, {10, "10"}, {99, "99"}, {100, "100"}, {-100, "-100"}, {1002003, "1002003"},
		{math.MaxInt64, "9223372036854775807"}, {math.MinInt64, "-9223372036854775808"}, {math.MinInt64 + 1, "-9223372036854775807"},
	} {
		if s := Text(x.n); s != x.want {
			t.Errorf("Text(%d) = %q; want %q", x.n, s, x.want)
		}
	}
	for _, n := range samples() {
		if s, w := Text(n), big.NewInt(n).String(); s != w {
			t.Errorf("Text(%d) = %q; want %q", n, s, w)
		}
	}
	for n := int64(-1100); n <= 1100; n++ {
		if s, w := Text(n), big.NewInt(n).String(); s != w {
			t.Errorf("Text(%d) = %q; want %q", n, s, w)
		}
	}
}

// P1.3: digits, with zeros in front, too.
func TestReadReadsDigits(t *testing.T) {
	zeros := strings.Repeat("0", 1000)
	for _, x := range []struct {
		s    string
		want int64
	}{
		{"0", 0}, {"00", 0}, {zeros, 0}, {"007", 7}, {zeros + "7", 7}, {"9", 9}, {"10", 10}, {"120", 120}, {"0120", 120}, {"1234567890", 1234567890},
		{"9223372036854775799", math.MaxInt64 - 8}, {"9223372036854775800", math.MaxInt64 - 7}, {"9223372036854775806", math.MaxInt64 - 1},
		{"9223372036854775807", math.MaxInt64}, {"0009223372036854775807", math.MaxInt64}, {zeros + "9223372036854775807", math.MaxInt64},
		{"999999999999999999", 999999999999999999},
	} {
		if n, e := Read(x.s); n != x.want || e != api.OK {
			t.Errorf("Read(%q) = %d, %d; want %d", x.s, n, e, x.want)
		}
	}
}

// P1.3, and R1: texts that are no digits, whatever number a part of them would be.
func TestReadRefusesOtherTexts(t *testing.T) {
	long := strings.Repeat("9", 500)
	for _, s := range []string{
		"", "-", "+", "-1", "+1", "-0", "--1", " ", " 1", "1 ", "1 2", "\n1", "1\n", "\x001", "1\x00", "12a", "a12", "1a2",
		"0x10", "1_0", "1e3", "1.0", "1.", ".1", "1,000", "-9223372036854775808", "/", ":", "1/", "1:",
		"\xd9\xa1", "1\xd9\xa1", "\xff", "9223372036854775808a", "a9223372036854775808", "18446744073709551616 ",
		long + "a", "a" + long, long + "a" + long, "-" + long, "+" + long,
	} {
		if n, e := Read(s); n != 0 || e != api.ErrForm {
			t.Errorf("Read(%q) = %d, %d; want error %d", s, n, e, api.ErrForm)
		}
	}
}

// P1.3: every byte at each place.
func TestReadLooksAtEachByte(t *testing.T) {
	for _, s := range []string{"7", "12", "12345", "9223372036854775807", "99999999999999999999999"} {
		for at := range len(s) {
			for c := range 256 {
				b := []byte(s)
				b[at] = byte(c)
				changed := string(b)
				n, e := Read(changed)
				if c >= '0' && c <= '9' {
					checkDigits(t, changed, n, e)
				} else if n != 0 || e != api.ErrForm {
					t.Errorf("Read(%q) = %d, %d; want error %d", changed, n, e, api.ErrForm)
				}
			}
		}
	}
}

// checkDigits compares what Read returned for digits with whole numbers of any size.
func checkDigits(t *testing.T, s string, n int64, e api.Errno) {
	t.Helper()
	w, _ := new(big.Int).SetString(s, 10)
	want, code := w.Int64(), api.OK
	if !w.IsInt64() {
		want, code = 0, api.ErrRange
	}
	if n != want || e != code {
		t.Errorf("Read(%q) = %d, %d; want %d, %d", s, n, e, want, code)
	}
}

// P1.3, and R1: digits that are more than 2^63 - 1.
func TestReadRefusesLargeNumbers(t *testing.T) {
	zeros := strings.Repeat("0", 1000)
	for _, s := range []string{
		"9223372036854775808", "9223372036854775809", "9223372036854775810", "9300000000000000000", "9999999999999999999",
		"10000000000000000000", "18446744073709551615", "18446744073709551616", "18446744073709551617", "18446744073709551623",
		"27670116110564327424", "92233720368547758070", "92233720368547758080", "184467440737095516160",
		"340282366920938463463374607431768211456", "1" + zeros, strings.Repeat("9", 5000), "000" + "9223372036854775808", zeros + "9223372036854775808",
	} {
		if n, e := Read(s); n != 0 || e != api.ErrRange {
			t.Errorf("Read(%q) = %d, %d; want error %d", s, n, e, api.ErrRange)
		}
	}
}

// P1.3: all digits near the powers of two and of ten at which numbers wrap or get longer.
func TestReadKnowsTheEnd(t *testing.T) {
	near := []*big.Int{}
	for p := range 130 {
		near = append(near, new(big.Int).Lsh(big.NewInt(1), uint(p)))
	}
	for p := range 40 {
		near = append(near, new(big.Int).Exp(big.NewInt(10), big.NewInt(int64(p)), nil))
	}
	for _, x := range near {
		for d := int64(-12); d <= 12; d++ {
			y := new(big.Int).Add(x, big.NewInt(d))
			if y.Sign() < 0 {
				continue
			}
			s := y.String()
			n, e := Read(s)
			checkDigits(t, s, n, e)
		}
	}
}

// P1.4: sums and products.
func TestRing(t *testing.T) {
	l := samples()
	for _, a := range l {
		for _, b := range l {
			for _, kind := range []uint8{api.NoAdd, api.NoMul} {
				if do(t, kind, a, b) != do(t, kind, b, a) {
					t.Errorf("%d: the order of %d and %d matters", kind, a, b)
				}
			}
			if do(t, api.NoSub, a, b) != do(t, api.NoAdd, a, do(t, api.NoNeg, b, 0)) {
				t.Errorf("%d - %d is no sum with the negative", a, b)
			}
			for _, c := range l {
				checkThree(t, a, b, c)
			}
		}
	}
}

// checkThree checks what P1.4 says of three numbers.
func checkThree(t *testing.T, a, b, c int64) {
	t.Helper()
	for _, kind := range []uint8{api.NoAdd, api.NoMul} {
		if do(t, kind, do(t, kind, a, b), c) != do(t, kind, a, do(t, kind, b, c)) {
			t.Errorf("%d: it matters which two of %d, %d, %d are first", kind, a, b, c)
		}
	}
	sum := do(t, api.NoMul, a, do(t, api.NoAdd, b, c))
	if sum != do(t, api.NoAdd, do(t, api.NoMul, a, b), do(t, api.NoMul, a, c)) {
		t.Errorf("%d * (%d + %d) is not the sum of the products", a, b, c)
	}
	if do(t, api.NoLess, a, b) == 1 && do(t, api.NoLess, b, c) == 1 && do(t, api.NoLess, a, c) != 1 {
		t.Errorf("%d < %d < %d, but not %d < %d", a, b, c, a, c)
	}
}

// P1.4: shifts to the left and back, and by 64 more.
func TestShiftsAndBack(t *testing.T) {
	for _, a := range samples() {
		for b := int64(-70); b <= 70; b++ {
			left := do(t, api.NoShl, a, b)
			lost := new(big.Int).Mul(big.NewInt(a), power(b)).Cmp(big.NewInt(left)) != 0
			if back := do(t, api.NoShr, left, b); !lost && back != a {
				t.Errorf("%d shifted by %d and back is %d", a, b, back)
			}
			if do(t, api.NoShl, a, b+64) != left || do(t, api.NoShr, a, b+64) != do(t, api.NoShr, a, b) {
				t.Errorf("%d shifted by %d is another number than by 64 more", a, b)
			}
		}
	}
}

// P1.4: comparisons are those of an order, and truth values are 0 and 1.
func TestComparisons(t *testing.T) {
	l := samples()
	for i, a := range l {
		for j, b := range l {
			less, atMost := do(t, api.NoLess, a, b), do(t, api.NoAtMost, a, b)
			more, least := do(t, api.NoMore, a, b), do(t, api.NoLeast, a, b)
			equal, other := do(t, api.NoEqual, a, b), do(t, api.NoOther, a, b)
			if less+equal+more != 1 || less+least != 1 || more+atMost != 1 || equal+other != 1 {
				t.Errorf("%d and %d are compared as by no order", a, b)
			}
			if more != do(t, api.NoLess, b, a) || i == j && equal != 1 {
				t.Errorf("%d and %d are compared in one direction alone", a, b)
			}
			for _, kind := range []uint8{api.NoNot, api.NoLess, api.NoAtMost, api.NoMore, api.NoLeast, api.NoEqual, api.NoOther, api.NoAnd, api.NoOr} {
				if n := do(t, kind, a, b); n != 0 && n != 1 {
					t.Errorf("Do(%d, %d, %d) = %d is no truth value", kind, a, b, n)
				}
			}
		}
	}
}

// P1.4: written and read.
func TestWrittenAndRead(t *testing.T) {
	texts := map[string]int64{}
	l := samples()
	for n := int64(-300); n <= 300; n++ {
		l = append(l, n, math.MaxInt64-300+n, math.MinInt64+300+n)
	}
	for _, n := range l {
		s := Text(n)
		if m, there := texts[s]; there && m != n {
			t.Errorf("%d and %d have the same text %q", m, n, s)
		}
		texts[s] = n
		m, e := Read(s)
		if n >= 0 && (m != n || e != api.OK) || n < 0 && (m != 0 || e != api.ErrForm) {
			t.Errorf("Read(Text(%d)) = %d, %d", n, m, e)
		}
	}
}
