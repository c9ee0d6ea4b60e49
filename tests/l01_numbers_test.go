package tests

import (
	"math"
	"strings"
	"testing"

	"loop.example/g01309/impl"
)

// TestChapter1Examples asserts the examples at the end of chapter 1.
func TestChapter1Examples(t *testing.T) {
	wantParts(t, "the product of 1 + 2 i and 3 - i", impl.MulComplex(complex(1, 2), complex(3, -1)), bitsOf(5), bitsOf(5))
	wantParts(t, "the quotient of 4 i and 2", impl.QuotientOf(complex(0, 4), 2), plusZero, bitsOf(2))
	i := impl.PhasorOf(0.25)
	wantParts(t, "the phasor of 0.25 turns", i, plusZero, oneBits)
	wantBits(t, "the angle of i", impl.AngleOf(i), bitsOf(0.25))
	text, ok := impl.ComplexText([]complex64{1})
	if !ok || text != "3f80000000000000" {
		t.Errorf("the text of 1: got %q, %v", text, ok)
	}
	tenths, ok := impl.TenthsOf(1)
	if !ok || tenths != 0 {
		t.Errorf("the tenths of the power 1: got %d, %v", tenths, ok)
	}
}

func TestChapter1Limits(t *testing.T) {
	if impl.MaxNumbers != 256 || impl.MaxValue != 1000000000000000 || impl.MaxItems != 64 || impl.CheckSize != 65003 {
		t.Error("a limit is not as the chapter has it")
	}
}

func TestP2NumbersAreToldByTheirBits(t *testing.T) {
	for step := range int64(70000) {
		n := step * 61363
		x, ok := impl.FromBits(n)
		if n > math.MaxUint32 {
			wantBool(t, "FromBits of "+impl.Decimal(n), ok, false)
			continue
		}
		want := num(uint32(n))
		if !ok || bitsOf(x) != bitsOf(want) || impl.BitsOf(x) != int64(bitsOf(want)) {
			t.Errorf("bits %d: got %v (%d), %v", n, x, impl.BitsOf(x), ok)
		}
	}
	for _, n := range []int64{0, 1, 0x80000000, plusInf, minusInf, greatest, nanBits} {
		x, ok := impl.FromBits(n)
		if !ok || impl.BitsOf(x) != n {
			t.Errorf("bits %d: got %d, %v", n, impl.BitsOf(x), ok)
		}
	}
	for _, n := range []int64{0x7f800001, 0x7fbfffff, 0x7fffffff, 0xff800001, 0xffc00000, math.MaxUint32} {
		x, ok := impl.FromBits(n)
		if !ok || x == x || impl.BitsOf(x) != 2143289344 {
			t.Errorf("not-a-number %d: got %d, %v", n, impl.BitsOf(x), ok)
		}
	}
	for _, n := range []int64{-1, math.MaxUint32 + 1, math.MinInt64, math.MaxInt64} {
		_, ok := impl.FromBits(n)
		wantBool(t, "FromBits of "+impl.Decimal(n), ok, false)
	}
}

func TestP2SameNumbers(t *testing.T) {
	for _, x := range strangeNumbers() {
		for _, y := range strangeNumbers() {
			want := bitsOf(x) == bitsOf(y)
			if impl.SameNumber(x, y) != want {
				t.Errorf("SameNumber of %v and %v: want %v", x, y, want)
			}
			wantBool(t, "SameComplex with a real part", impl.SameComplex(complex(x, 1), complex(y, 1)), want)
			wantBool(t, "SameComplex with an imaginary part", impl.SameComplex(complex(1, x), complex(1, y)), want)
		}
	}
}

func TestP2FiniteNumbers(t *testing.T) {
	for _, x := range strangeNumbers() {
		want := !math.IsInf(float64(x), 0) && !math.IsNaN(float64(x))
		if impl.IsFinite(x) != want {
			t.Errorf("IsFinite of %v: want %v", x, want)
		}
		wantBool(t, "IsFiniteComplex with a real part", impl.IsFiniteComplex(complex(x, 1)), want)
		wantBool(t, "IsFiniteComplex with an imaginary part", impl.IsFiniteComplex(complex(1, x)), want)
	}
}

func TestP2Narrowing(t *testing.T) {
	cases := []struct {
		x    float64
		want uint32
	}{
		{0.5, 0x3f000000}, {1 + 0x1p-24, oneBits}, {1 + 0x1p-24 + 0x1p-52, oneBits + 1}, {1 + 3*0x1p-24, oneBits + 2},
		{math.Copysign(0, -1), minusZero}, {0x1p-150, plusZero}, {-0x1p-150, minusZero}, {0x1p-150 + 0x1p-200, leastBits},
		{3 * 0x1p-150, 2}, {-1e-300, minusZero}, {math.MaxFloat32, greatest}, {0x1.fffffefp127, greatest},
		{0x1.ffffffp127, plusInf}, {-1e300, minusInf}, {math.Inf(-1), minusInf}, {math.NaN(), nanBits},
		{0x1p-126 - 0x1p-151, leastNormal}, {0x1p-126 - 0x1p-149, belowNormal},
	}
	for _, c := range cases {
		wantBits(t, "NarrowNumber", impl.NarrowNumber(c.x), c.want)
		wantParts(t, "NarrowComplex", impl.NarrowComplex(complex(c.x, 2)), c.want, bitsOf(2))
		wantParts(t, "NarrowComplex", impl.NarrowComplex(complex(2, c.x)), bitsOf(2), c.want)
	}
}

func TestP2Subnormal(t *testing.T) {
	for _, c := range []struct {
		bits, flushed uint32
		subnormal     bool
	}{
		{plusZero, plusZero, false}, {minusZero, minusZero, false},
		{leastBits, plusZero, true}, {0x80000001, minusZero, true},
		{belowNormal, plusZero, true}, {0x807fffff, minusZero, true},
		{leastNormal, leastNormal, false}, {0x80800000, 0x80800000, false},
		{oneBits, oneBits, false}, {plusInf, plusInf, false}, {minusInf, minusInf, false},
		{nanBits, nanBits, false}, {0xff800001, nanBits, false},
	} {
		wantBool(t, "IsSubnormal of "+hex(c.bits), impl.IsSubnormal(num(c.bits)), c.subnormal)
		wantBits(t, "FlushNumber of "+hex(c.bits), impl.FlushNumber(num(c.bits)), c.flushed)
	}
}

func TestP2ProductsOfSmallIntegersAreExact(t *testing.T) {
	for a := -11; a <= 11; a++ {
		for b := -11; b <= 11; b++ {
			for c := -11; c <= 11; c++ {
				for d := -11; d <= 11; d++ {
					x, y := complex(float32(a), float32(b)), complex(float32(c), float32(d))
					if impl.MulComplex(x, y) != complex(float32(a*c-b*d), float32(a*d+b*c)) {
						t.Fatalf("the product of %v and %v: got %v", x, y, impl.MulComplex(x, y))
					}
				}
			}
			x := complex(float32(a), float32(b))
			if impl.ScaleComplex(x, 7) != complex(float32(7*a), float32(7*b)) || impl.PowerOf(x) != float32(a*a+b*b) {
				t.Fatalf("7 times, or the power of, %v: got %v, %v", x, impl.ScaleComplex(x, 7), impl.PowerOf(x))
			}
		}
	}
}

func TestP2ProductsAreMadeWithLongNumbers(t *testing.T) {
	// 4097 4097 is not a 32-bit number, and is greater by 1 than 4098 4096.
	wantParts(t, "a product with close parts", impl.MulComplex(complex(4097, 4098), complex(4097, 4096)), oneBits, bitsOf(4097*4096+4098*4097))
	wantParts(t, "a product with great parts", impl.MulComplex(complex(1e30, 1e30), complex(1e30, 1e30)), plusZero, plusInf)
	wantParts(t, "a product of zeros", impl.MulComplex(complex(num(minusZero), 0), complex(1, 0)), minusZero, plusZero)
	wantParts(t, "a product of zeros, exchanged", impl.MulComplex(complex(0, num(minusZero)), complex(1, 0)), plusZero, plusZero)
	wantParts(t, "a product with an infinity", impl.MulComplex(complex(num(plusInf), 0), 1), plusInf, nanBits)
	wantParts(t, "a product of subnormal numbers", impl.MulComplex(complex(num(leastBits), 0), complex(0.75, 0.5)), leastBits, plusZero)
}

func TestP2ScaledAndConjugated(t *testing.T) {
	wantParts(t, "1 + 2 i by 0.5", impl.ScaleComplex(complex(1, 2), 0.5), bitsOf(0.5), oneBits)
	wantParts(t, "by -0", impl.ScaleComplex(complex(1, num(plusInf)), num(minusZero)), minusZero, nanBits)
	wantParts(t, "by an infinity", impl.ScaleComplex(complex(-1, 0), num(plusInf)), minusInf, nanBits)
	wantParts(t, "the conjugate of 1 + 2 i", impl.ConjugateOf(complex(1, 2)), oneBits, bitsOf(-2))
	wantParts(t, "the conjugate of zero", impl.ConjugateOf(0), plusZero, minusZero)
	wantParts(t, "the conjugate of 0 - 0 i", impl.ConjugateOf(complex(0, num(minusZero))), plusZero, plusZero)
	wantParts(t, "the conjugate of an infinity", impl.ConjugateOf(complex(num(minusInf), num(plusInf))), minusInf, minusInf)
}

func TestP2Powers(t *testing.T) {
	for _, c := range []struct {
		re, im, power, long uint32
	}{
		{bitsOf(3), bitsOf(4), bitsOf(25), bitsOf(5)},
		{bitsOf(-3), bitsOf(-4), bitsOf(25), bitsOf(5)},
		{bitsOf(0x1p100), plusZero, plusInf, bitsOf(0x1p100)},
		{plusZero, bitsOf(-0x1p-100), plusZero, bitsOf(0x1p-100)},
		{bitsOf(4097), bitsOf(1), bitsOf(16785410), bitsOf(4097)},
		{oneBits, oneBits, bitsOf(2), 0x3fb504f3},
		{minusZero, minusZero, plusZero, plusZero},
		{minusInf, oneBits, plusInf, plusInf},
		{minusInf, nanBits, nanBits, nanBits},
	} {
		x := complex(num(c.re), num(c.im))
		wantBits(t, "PowerOf", impl.PowerOf(x), c.power)
		wantBits(t, "LongOf", impl.LongOf(x), c.long)
	}
}

func TestP2Quotients(t *testing.T) {
	least := num(leastBits)
	wantParts(t, "5 + 5 i and 3 - i", impl.QuotientOf(complex(5, 5), complex(3, -1)), oneBits, bitsOf(2))
	wantParts(t, "1 and i", impl.QuotientOf(1, complex(0, 1)), plusZero, bitsOf(-1))
	wantParts(t, "1 and 3", impl.QuotientOf(1, 3), 0x3eaaaaab, plusZero)
	wantParts(t, "-1 - 0 i and 3", impl.QuotientOf(complex(-1, num(minusZero)), 3), 0xbeaaaaab, plusZero)
	wantParts(t, "great numbers", impl.QuotientOf(complex(1e38, 1e38), complex(1e38, 1e38)), oneBits, plusZero)
	wantParts(t, "subnormal numbers", impl.QuotientOf(complex(0, least), complex(least, 0)), plusZero, oneBits)
	wantParts(t, "0.1 and 0.3 + 0.7 i", impl.QuotientOf(0.1, complex(0.3, 0.7)), 0x3d53dcb2, 0xbdf72c24)
	for _, zero := range []complex64{0, complex(num(minusZero), 0), complex(0, num(minusZero))} {
		wantParts(t, "1 + 2 i and zero", impl.QuotientOf(complex(1, 2), zero), nanBits, nanBits)
		wantParts(t, "zero and zero", impl.QuotientOf(0, zero), nanBits, nanBits)
	}
	wantParts(t, "1 and an infinity", impl.QuotientOf(1, complex(num(plusInf), 0)), nanBits, nanBits)
}

func TestP2Roots(t *testing.T) {
	for _, c := range [][2]uint32{
		{bitsOf(9), bitsOf(3)}, {bitsOf(2), 0x3fb504f3}, {bitsOf(3), 0x3fddb3d7}, {0x3dcccccd, 0x3ea1e89b},
		{leastBits, 0x1a3504f3}, {belowNormal, 0x1fffffff}, {greatest, 0x5f7fffff},
		{plusZero, plusZero}, {minusZero, minusZero}, {plusInf, plusInf},
		{bitsOf(-1), nanBits}, {0x80000001, nanBits}, {minusInf, nanBits}, {nanBits, nanBits},
	} {
		wantBits(t, "RootNumber of "+hex(c[0]), impl.RootNumber(num(c[0])), c[1])
	}
}

func TestP2SumsOfNumbers(t *testing.T) {
	for _, c := range []struct {
		list []float32
		want uint32
	}{
		{nil, plusZero}, {[]float32{1, 2, 3.5}, bitsOf(6.5)}, {[]float32{num(minusZero)}, plusZero},
		{[]float32{1e8, 1, -1e8}, plusZero}, {[]float32{1e8, -1e8, 1}, oneBits},
		{[]float32{3e38, 3e38, -3e38}, plusInf}, {[]float32{num(plusInf), num(minusInf)}, nanBits},
		{[]float32{num(leastBits), num(leastBits)}, 2}, {make([]float32, 256), plusZero},
	} {
		got, ok := impl.SumNumbers(c.list)
		wantBool(t, "SumNumbers succeeds", ok, true)
		wantBits(t, "SumNumbers", got, c.want)
	}
	_, ok := impl.SumNumbers(make([]float32, 257))
	wantBool(t, "the sum of 257 numbers", ok, false)
}

func TestP2DotsOfNumbers(t *testing.T) {
	for _, c := range []struct {
		a, b []float32
		want uint32
	}{
		{nil, nil, plusZero}, {[]float32{1, 2}, []float32{3, 4}, bitsOf(11)},
		// 4097 4097 is rounded to 4097 4097 - 1 before it is added.
		{[]float32{-4097, 4097}, []float32{4098, 4097}, bitsOf(4097*4097 - 1 - 4097*4098)},
		{[]float32{1e30, 1e30}, []float32{1e30, -1e30}, nanBits},
		{[]float32{num(minusZero)}, []float32{1}, plusZero},
		{make([]float32, 256), make([]float32, 256), plusZero},
	} {
		got, ok := impl.DotNumbers(c.a, c.b)
		wantBool(t, "DotNumbers succeeds", ok, true)
		wantBits(t, "DotNumbers", got, c.want)
	}
	_, long := impl.DotNumbers(make([]float32, 257), make([]float32, 257))
	_, uneven := impl.DotNumbers([]float32{1, 2}, []float32{1})
	_, turned := impl.DotNumbers([]float32{1}, []float32{1, 2})
	wantBool(t, "long or uneven lists", long || uneven || turned, false)
}

func TestP2SumsOfComplexNumbers(t *testing.T) {
	i := complex64(complex(0, 1))
	sum, ok := impl.SumComplex([]complex64{complex(1e8, num(minusZero)), complex(1, 2), complex(-1e8, 3)})
	wantBool(t, "SumComplex succeeds", ok, true)
	wantParts(t, "SumComplex", sum, plusZero, bitsOf(5))
	sum, ok = impl.SumComplex([]complex64{complex(num(minusZero), num(minusZero))})
	wantBool(t, "SumComplex of one succeeds", ok, true)
	wantParts(t, "SumComplex of -0 - 0 i", sum, plusZero, plusZero)

	dot, ok := impl.DotComplex([]complex64{i, complex(1, 2)}, []complex64{i, complex(3, -1)})
	wantBool(t, "DotComplex succeeds", ok, true)
	wantParts(t, "DotComplex", dot, bitsOf(4), bitsOf(5))
	dot, ok = impl.DotConjugate([]complex64{i, complex(1, 2)}, []complex64{i, complex(3, -1)})
	wantBool(t, "DotConjugate succeeds", ok, true)
	wantParts(t, "DotConjugate", dot, bitsOf(2), bitsOf(-7))
	// The product of the first two is narrowed before the next one is added.
	dot, ok = impl.DotComplex([]complex64{4097, -4097}, []complex64{4097, 4098})
	wantBool(t, "DotComplex of great numbers succeeds", ok, true)
	wantBits(t, "DotComplex, narrowed", real(dot), bitsOf(4097*4097-1-4097*4098))

	for _, got := range [][]any{all(impl.SumComplex(nil)), all(impl.DotComplex(nil, nil)), all(impl.DotConjugate(nil, nil))} {
		if tell(got...) != "0 0  true " {
			t.Errorf("a sum of nothing: got %s", tell(got...))
		}
	}
}

func TestP2SumsOfPowers(t *testing.T) {
	for _, c := range []struct {
		list []complex64
		want uint32
	}{
		{nil, plusZero}, {[]complex64{complex(3, 4), 1}, bitsOf(26)},
		// 16777216 + 1 + 1 needs 64-bit numbers until the end.
		{[]complex64{4096, 1, complex(0, 1)}, bitsOf(16777218)},
		{[]complex64{0x1p-75, 0x1p-75}, leastBits},
		{[]complex64{complex(num(nanBits), 0), 1}, nanBits},
	} {
		got, ok := impl.PowersOf(c.list)
		wantBool(t, "PowersOf succeeds", ok, true)
		wantBits(t, "PowersOf", got, c.want)
	}
}

func TestP2LimitsOfComplexLists(t *testing.T) {
	full, over := make([]complex64, 256), make([]complex64, 257)
	for _, c := range []struct {
		a, b []complex64
		want bool
	}{{full, full, true}, {over, over, false}, {full, full[1:], false}, {nil, full[:1], false}} {
		_, dot := impl.DotComplex(c.a, c.b)
		_, turned := impl.DotConjugate(c.a, c.b)
		if dot != c.want || turned != c.want {
			t.Errorf("%d and %d complex numbers: got %v and %v", len(c.a), len(c.b), dot, turned)
		}
	}
	_, sum := impl.SumComplex(full)
	_, powers := impl.PowersOf(full)
	_, sumOver := impl.SumComplex(over)
	_, powersOver := impl.PowersOf(over)
	if !sum || !powers || sumOver || powersOver {
		t.Error("the limit of SumComplex or PowersOf is not 256")
	}
}

func TestP2TextsOfNumbers(t *testing.T) {
	for _, c := range []struct {
		list []float32
		text string
	}{
		{nil, "none"}, {[]float32{1, -2}, "3f800000,c0000000"}, {[]float32{num(minusZero)}, "80000000"},
		{[]float32{0, num(leastBits), num(0xff800001), num(plusInf)}, "00000000,00000001,7fc00000,7f800000"},
		{[]float32{num(0x01234567), num(0x89abcdef)}, "01234567,89abcdef"},
	} {
		text, ok := impl.NumbersText(c.list)
		if !ok || text != c.text {
			t.Errorf("NumbersText: got %q, %v, want %q", text, ok, c.text)
		}
		list, ok := impl.ReadNumbers(c.text)
		if !ok || tell(list) != tell(c.list) {
			t.Errorf("ReadNumbers of %q: got %v, %v", c.text, list, ok)
		}
	}
	for _, s := range []string{"", "None", "none,none", "3F800000", "3f80000", "3f8000000", "3f800000,", ",3f800000",
		"3f800000 ", "3f800000,,3f800000", "3f800000,none", "0x3f8000", "+3f80000", "-3f80000", "3f80_000", "3f80000g", "3f80000`",
		"3f80000/", "3f80000:", "3f8000é", "7fc00001", "7f800001", "ffc00000", "ffffffff", "3f80000000000000", "3f800000\n"} {
		list, ok := impl.ReadNumbers(s)
		if ok || list != nil {
			t.Errorf("ReadNumbers of %q: got %v, %v", s, list, ok)
		}
	}
}

func TestP2TextsOfComplexNumbers(t *testing.T) {
	for _, c := range []struct {
		list []complex64
		text string
	}{
		{nil, "none"}, {[]complex64{1, complex(0, -2)}, "3f80000000000000,00000000c0000000"},
		{[]complex64{complex(num(minusZero), num(0xffffffff))}, "800000007fc00000"},
	} {
		text, ok := impl.ComplexText(c.list)
		if !ok || text != c.text {
			t.Errorf("ComplexText: got %q, %v, want %q", text, ok, c.text)
		}
		list, ok := impl.ReadComplex(c.text)
		if !ok || tell(list) != tell(c.list) {
			t.Errorf("ReadComplex of %q: got %v, %v", c.text, list, ok)
		}
	}
	for _, s := range []string{"", "3f800000", "3f800000,00000000", "3f8000000000000", "3f800000000000000", "3f80000000000000,",
		"3f8000007fc00001", "7f80000100000000", "3F80000000000000", "3f80000x00000000", "3f8000000000000x", "none,3f80000000000000"} {
		list, ok := impl.ReadComplex(s)
		if ok || list != nil {
			t.Errorf("ReadComplex of %q: got %v, %v", s, list, ok)
		}
	}
}

func TestP2TextsAtTheLimit(t *testing.T) {
	text, ok := impl.NumbersText(make([]float32, 256))
	list, read := impl.ReadNumbers(text)
	if !ok || !read || len(list) != 256 || len(text) != 256*9-1 {
		t.Errorf("256 numbers: got %d bytes, %v, and %d numbers, %v", len(text), ok, len(list), read)
	}
	_, ok = impl.NumbersText(make([]float32, 257))
	_, read = impl.ReadNumbers(text + ",00000000")
	wantBool(t, "257 numbers have a text", ok || read, false)

	text, ok = impl.ComplexText(make([]complex64, 256))
	pairs, read := impl.ReadComplex(text)
	if !ok || !read || len(pairs) != 256 || len(text) != 256*17-1 {
		t.Errorf("256 complex numbers: got %d bytes, %v, and %d numbers, %v", len(text), ok, len(pairs), read)
	}
	_, ok = impl.ComplexText(make([]complex64, 257))
	_, read = impl.ReadComplex(text + "," + strings.Repeat("0", 16))
	wantBool(t, "257 complex numbers have a text", ok || read, false)
}

func TestP2Names(t *testing.T) {
	for _, s := range []string{"a", "z", "ring", "abcdefgh"} {
		wantBool(t, "IsName of "+s, impl.IsName(s), true)
	}
	for _, s := range []string{"", "A", "abcdefghi", "a1", "a b", " a", "a\n", "`", "{", "é", "\xff", "a\x00"} {
		wantBool(t, "IsName of "+s, impl.IsName(s), false)
	}
}

func TestP2Decimals(t *testing.T) {
	for _, c := range []struct {
		n    int64
		text string
		read bool
	}{
		{0, "0", true}, {7, "7", true}, {-4, "-4", true}, {10, "10", true},
		{impl.MaxValue, "1000000000000000", true}, {-impl.MaxValue, "-1000000000000000", true},
		{impl.MaxValue + 1, "1000000000000001", false}, {-impl.MaxValue - 1, "-1000000000000001", false},
		{math.MaxInt64, "9223372036854775807", false}, {math.MinInt64, "-9223372036854775808", false},
	} {
		if impl.Decimal(c.n) != c.text {
			t.Errorf("Decimal of %d: got %q", c.n, impl.Decimal(c.n))
		}
		n, ok := impl.ReadDecimal(c.text)
		if ok != c.read || ok && n != c.n {
			t.Errorf("ReadDecimal of %q: got %d, %v", c.text, n, ok)
		}
	}
	for _, s := range []string{"", "-", "+1", "01", "-0", "-01", "00", " 1", "1 ", "1.0", "0x1", "1_0", "--1", "१", "9223372036854775808"} {
		n, ok := impl.ReadDecimal(s)
		if ok || n != 0 {
			t.Errorf("ReadDecimal of %q: got %d, %v", s, n, ok)
		}
	}
}

func TestP2TextsOfIntegers(t *testing.T) {
	for _, c := range []struct {
		list []int64
		text string
	}{
		{nil, "none"}, {[]int64{5}, "5"}, {[]int64{3, -2, 0, 3}, "3,-2,0,3"},
		{[]int64{impl.MaxValue, -impl.MaxValue}, "1000000000000000,-1000000000000000"},
		{make([]int64, 64), strings.Repeat("0,", 63) + "0"},
	} {
		text, ok := impl.ListText(c.list)
		if !ok || text != c.text {
			t.Errorf("ListText of %v: got %q, %v", c.list, text, ok)
		}
		list, ok := impl.ReadList(c.text)
		if !ok || tell(list) != tell(c.list) {
			t.Errorf("ReadList of %q: got %v, %v", c.text, list, ok)
		}
	}
	for _, list := range [][]int64{{impl.MaxValue + 1}, {0, -impl.MaxValue - 1}, make([]int64, 65)} {
		text, ok := impl.ListText(list)
		if ok || text != "" {
			t.Errorf("ListText of %v: got %q, %v", list, text, ok)
		}
	}
	for _, s := range []string{"", ",", "1,", ",1", "1,,2", "1, 2", "01", "1,-0", "none,1", "1,none", "NONE",
		"1000000000000001", strings.Repeat("0,", 64) + "0"} {
		list, ok := impl.ReadList(s)
		if ok || list != nil {
			t.Errorf("ReadList of %q: got %v, %v", s, list, ok)
		}
	}
}

func TestP2CheckNumbers(t *testing.T) {
	for _, c := range []struct {
		start int64
		s     string
		want  int64
	}{
		{0, "", 0}, {0, "a", 228}, {0, "ab", 59235}, {0, "123456789", 41409}, {0, "\xff\x00", 60113},
		{65002, "", 65002}, {65002, "\xff", 64560},
	} {
		got, ok := impl.CheckOf(c.start, c.s)
		if !ok || got != c.want {
			t.Errorf("CheckOf from %d on of %q: got %d, %v", c.start, c.s, got, ok)
		}
	}
	first, _ := impl.CheckOf(0, "houses of ")
	parts, _ := impl.CheckOf(first, "ice")
	whole, _ := impl.CheckOf(0, "houses of ice")
	if parts != whole {
		t.Errorf("in parts %d, at once %d", parts, whole)
	}
	for _, start := range []int64{-1, 65003, math.MinInt64, math.MaxInt64} {
		got, ok := impl.CheckOf(start, "a")
		if ok || got != 0 {
			t.Errorf("CheckOf from %d on: got %d, %v", start, got, ok)
		}
	}
}
