package tests

import (
	"math"
	"slices"
	"strings"
	"testing"

	"loop.example/g01309/impl"
)

// callsOfNumbers tells the results of all functions of chapter 1 that take two numbers or less.
func callsOfNumbers(x, y float32) string {
	z, w := complex(x, y), complex(y, x)
	bits, ok := impl.FromBits(impl.BitsOf(x))
	tenths, some := impl.TenthsOf(x)
	return tell(impl.SameNumber(x, y), impl.IsFinite(x), impl.BitsOf(x), bits, ok,
		impl.NarrowNumber(float64(x)), impl.IsSubnormal(x), impl.FlushNumber(x),
		impl.SameComplex(z, w), impl.IsFiniteComplex(z),
		impl.NarrowComplex(complex(float64(x), float64(y))), impl.MulComplex(z, w),
		impl.ScaleComplex(z, y), impl.ConjugateOf(z), impl.PowerOf(z), impl.LongOf(z),
		impl.QuotientOf(z, w), impl.QuotientOf(w, z), impl.PhasorOf(float64(x)),
		impl.AngleOf(z), impl.SineTurns(x), impl.AngleTurns(x, y), tenths, some,
		impl.RootNumber(x), impl.ExpNumber(x), impl.LogNumber(x))
}

func TestP1NumbersOfAllKinds(t *testing.T) {
	for _, x := range strangeNumbers() {
		for _, y := range strangeNumbers() {
			first, second := callsOfNumbers(x, y), callsOfNumbers(x, y)
			if first != second {
				t.Errorf("%v and %v: first %s, then %s", x, y, first, second)
			}
		}
	}
}

func TestP1AllNotANumbersAreOneValue(t *testing.T) {
	for _, y := range strangeNumbers() {
		want, wantBehind := callsOfNumbers(num(nanBits), y), callsOfNumbers(y, num(nanBits))
		for _, bits := range []uint32{0x7f800001, 0x7fffffff, 0xff800001, 0xffc00000, 0xffffffff} {
			if got := callsOfNumbers(num(bits), y); got != want {
				t.Errorf("not-a-number %s and %v: got %s, want %s", hex(bits), y, got, want)
			}
			if got := callsOfNumbers(y, num(bits)); got != wantBehind {
				t.Errorf("%v and not-a-number %s: got %s, want %s", y, hex(bits), got, wantBehind)
			}
		}
	}
}

func TestP1LongNumbersOfAllKinds(t *testing.T) {
	list := []float64{0, math.Copysign(0, -1), math.SmallestNonzeroFloat64, -math.SmallestNonzeroFloat64,
		math.MaxFloat64, -math.MaxFloat64, math.Inf(1), math.Inf(-1), math.NaN(), 1 << 52, -(1 << 52), 1<<52 - 0.5, -1e-17}
	for _, x := range list {
		for _, y := range list {
			calls := func() string {
				return tell(impl.NarrowNumber(x), impl.NarrowComplex(complex(x, y)), impl.PhasorOf(x))
			}
			if first, second := calls(), calls(); first != second {
				t.Errorf("%v and %v: first %s, then %s", x, y, first, second)
			}
		}
	}
}

// withRoom returns a copy of a list with unused capacity, and a function that
// reports whether the copy and its unused capacity are still as they were.
func withRoom[T any](list []T, same func(a, b T) bool) ([]T, func() bool) {
	back := make([]T, len(list)+8)
	copy(back, list)
	copy(back[len(list):], list)
	before := slices.Clone(back)
	return back[:len(list)], func() bool { return slices.EqualFunc(back, before, same) }
}

func complexList(numbers []float32) []complex64 {
	var list []complex64
	for i := range numbers {
		list = append(list, complex(numbers[i], numbers[len(numbers)-1-i]))
	}
	return list
}

func callsOfLists(a, b []float32) string {
	sum, ok := impl.SumNumbers(a)
	dot, both := impl.DotNumbers(a, b)
	text, told := impl.NumbersText(a)
	return tell(sum, ok, dot, both, text, told)
}

func callsOfComplexLists(a, b []complex64) string {
	sum, ok := impl.SumComplex(a)
	dot, both := impl.DotComplex(a, b)
	turned, pairs := impl.DotConjugate(a, b)
	powers, some := impl.PowersOf(a)
	text, told := impl.ComplexText(a)
	return tell(sum, ok, dot, both, turned, pairs, powers, some, text, told)
}

func TestP1ListsStayAsTheyAre(t *testing.T) {
	for _, count := range []int{0, 1, 3, 29, 255, 256, 257, 1000} {
		numbers := slices.Repeat(strangeNumbers(), 40)[:count]
		a, sameA := withRoom(numbers, func(x, y float32) bool { return bitsOf(x) == bitsOf(y) })
		b, sameB := withRoom(numbers, func(x, y float32) bool { return bitsOf(x) == bitsOf(y) })
		if first, second := callsOfLists(a, b), callsOfLists(a, b); first != second {
			t.Errorf("%d numbers: first %s, then %s", count, first, second)
		}
		wantBool(t, "the lists of numbers are unchanged", sameA() && sameB(), true)

		same := func(x, y complex64) bool { return tell(x) == tell(y) }
		c, sameC := withRoom(complexList(numbers), same)
		d, sameD := withRoom(complexList(numbers), same)
		if first, second := callsOfComplexLists(c, d), callsOfComplexLists(c, d); first != second {
			t.Errorf("%d complex numbers: first %s, then %s", count, first, second)
		}
		wantBool(t, "the lists of complex numbers are unchanged", sameC() && sameD(), true)
	}
}

func TestP1IntegerListsStayAsTheyAre(t *testing.T) {
	for _, list := range [][]int64{nil, {}, {3, -2, 1}, {math.MinInt64, math.MaxInt64}, make([]int64, 64), make([]int64, 65)} {
		a, same := withRoom(list, func(x, y int64) bool { return x == y })
		first, ok := impl.ListText(a)
		second, again := impl.ListText(a)
		if first != second || ok != again {
			t.Errorf("%v: first %q, then %q", list, first, second)
		}
		wantBool(t, "the list of integers is unchanged", same(), true)
	}
}

func TestP1EmptyIsNil(t *testing.T) {
	if callsOfLists(nil, []float32{}) != callsOfLists([]float32{}, nil) {
		t.Error("nil and an empty list of numbers have different results")
	}
	if callsOfComplexLists(nil, []complex64{}) != callsOfComplexLists([]complex64{}, nil) {
		t.Error("nil and an empty list of complex numbers have different results")
	}
	first, ok := impl.ListText(nil)
	second, again := impl.ListText([]int64{})
	if first != second || ok != again {
		t.Error("nil and an empty list of integers have different results")
	}
}

func TestP1ResultsAreNew(t *testing.T) {
	a, _ := impl.ReadNumbers("3f800000,40000000")
	b, _ := impl.ReadNumbers("3f800000,40000000")
	a[0] = 9
	if b[0] != 1 {
		t.Error("two lists of numbers share memory")
	}
	c, _ := impl.ReadComplex("3f80000040000000")
	d, _ := impl.ReadComplex("3f80000040000000")
	c[0] = 9
	if d[0] != complex(1, 2) {
		t.Error("two lists of complex numbers share memory")
	}
	e, _ := impl.ReadList("1,2")
	f, _ := impl.ReadList("1,2")
	e[0] = 9
	if f[0] != 1 {
		t.Error("two lists of integers share memory")
	}
}

func callsOfText(s string) string {
	numbers, ok := impl.ReadNumbers(s)
	complexes, both := impl.ReadComplex(s)
	n, some := impl.ReadDecimal(s)
	list, listed := impl.ReadList(s)
	check, checked := impl.CheckOf(7, s)
	return tell(numbers, ok, complexes, both, impl.IsName(s), n, some, list, listed, check, checked)
}

func TestP1AllTexts(t *testing.T) {
	texts := []string{"", " ", ",", ",,", "none", "none,", "None", "\x00", "\xff\xfe", "é", "3f80000é",
		"\xff\xff\xff\xff\xff\xff\xff\xff", "3f800000", "3f800000,", ",3f800000", "3f80000040000000",
		"-", "--1", "1e3", "9223372036854775808", "-9223372036854775808", "1,2,3", "1;2",
		strings.Repeat(",", 100000), strings.Repeat("3f800000,", 300), strings.Repeat("9", 100000)}
	for _, s := range texts {
		if first, second := callsOfText(s), callsOfText(s); first != second {
			t.Errorf("%.40q: first %.80s, then %.80s", s, first, second)
		}
	}
}

func TestP1AllIntegers(t *testing.T) {
	for _, n := range []int64{math.MinInt64, math.MinInt64 + 1, -1, 0, 1, 65002, 65003, 1 << 32, math.MaxInt64} {
		x, ok := impl.FromBits(n)
		y, again := impl.FromBits(n)
		c, checked := impl.CheckOf(n, "text")
		d, rechecked := impl.CheckOf(n, "text")
		if tell(x, ok, c, checked, impl.Decimal(n)) != tell(y, again, d, rechecked, impl.Decimal(n)) {
			t.Errorf("%d has different results", n)
		}
	}
}

// TestP1FailuresAreZero checks that what fails returns nothing else.
func TestP1FailuresAreZero(t *testing.T) {
	long := slices.Repeat([]float32{1}, 257)
	longComplex := slices.Repeat([]complex64{1}, 257)
	fails := map[string][]any{
		"FromBits":     all(impl.FromBits(1 << 32)),
		"TenthsOf":     all(impl.TenthsOf(-1)),
		"SumNumbers":   all(impl.SumNumbers(long)),
		"DotNumbers":   all(impl.DotNumbers(long, long)),
		"SumComplex":   all(impl.SumComplex(longComplex)),
		"DotComplex":   all(impl.DotComplex(longComplex, longComplex)),
		"DotConjugate": all(impl.DotConjugate(longComplex, longComplex)),
		"PowersOf":     all(impl.PowersOf(longComplex)),
		"NumbersText":  all(impl.NumbersText(long)),
		"ComplexText":  all(impl.ComplexText(longComplex)),
		"ReadNumbers":  all(impl.ReadNumbers("3f800000,x")),
		"ReadComplex":  all(impl.ReadComplex("3f80000040000000,x")),
		"ReadDecimal":  all(impl.ReadDecimal("07")),
		"ListText":     all(impl.ListText([]int64{1, math.MaxInt64})),
		"ReadList":     all(impl.ReadList("1,x")),
		"CheckOf":      all(impl.CheckOf(65003, "a")),
	}
	for name, results := range fails {
		switch got := tell(results...); got {
		case "0 false ", "0 0  false ", "\"\" false ", " false ":
		default:
			t.Errorf("%s: got %s, want zero values and false", name, got)
		}
	}
}
