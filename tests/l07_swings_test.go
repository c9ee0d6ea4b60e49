package tests

import (
	"math"
	"slices"
	"strings"
	"testing"

	"loop.example/g01309/impl"
)

func TestP8DegreeDays(t *testing.T) {
	wantText(t, "DegreeDays", toldNumber(impl.DegreeDays([]float32{10, 20, 15, 18}, 18)), toldNumber(11, true))
	wantText(t, "DegreeDays of warm days", toldNumber(impl.DegreeDays([]float32{18, 19, 30}, 18)), toldNumber(0, true))
	r := somewhere(221)
	for count := 1; count <= 128; count++ {
		list, base := r.list(count, -10, 30), r.number(0, 20)
		sum := 0.0
		for _, x := range list {
			sum += max(float64(base)-float64(x), 0)
		}
		days, ok := impl.DegreeDays(list, base)
		wantBool(t, "DegreeDays", ok, true)
		wantNear(t, "DegreeDays", days, sum, 1e-5*sum+1e-6)
		if count <= 96 {
			wantText(t, "DegreeSum", toldNumber(impl.DegreeSum(list, base)), toldNumber(days, true))
		}
	}
	for _, bad := range noNumbers() {
		_, ok := impl.DegreeDays([]float32{1}, bad)
		wantBool(t, "DegreeDays with the base "+tell(bad), ok, false)
	}
	_, ok := impl.DegreeDays([]float32{num(0xff7fffff), num(0xff7fffff)}, 0)
	wantBool(t, "DegreeDays of too much", ok, false)
}

func TestP8Frosts(t *testing.T) {
	r := somewhere(222)
	for count := 1; count <= 128; count++ {
		list := r.list(count, -2, 2)
		var word strings.Builder
		for i := range list {
			switch r.whole(0, 9) {
			case 0:
				list[i] = 0
			case 1:
				list[i] = num(minusZero)
			case 2:
				list[i] = num(0x80000001)
			}
			word.WriteString(map[bool]string{true: "f", false: " "}[list[i] < 0])
		}
		longest := 0
		frosts := strings.Fields(word.String())
		for _, frost := range frosts {
			longest = max(longest, len(frost))
		}
		want := toldWholePair(int64(len(frosts)), int64(longest), true)
		wantText(t, "FrostIn of "+word.String(), toldWholePair(impl.FrostIn(list)), want)
	}
	for count := 1; count <= 128; count++ {
		cold := slices.Repeat([]float32{-3}, count)
		wantText(t, "FrostIn of what does not change", toldWholePair(impl.FrostIn(cold)), "1 "+whole(int64(count)))
		wantText(t, "FrostIn at 0", toldWholePair(impl.FrostIn(make([]float32, count))), "0 0")
	}
}

func wantWaveNear(t *testing.T, what string, got, want complex64, near float64) {
	t.Helper()
	wantNear(t, what+", real part", real(got), float64(real(want)), near)
	wantNear(t, what+", imaginary part", imag(got), float64(imag(want)), near)
}

// TestP8SwingsAreFoundAgain checks that a wave is found in its reads, and no other one.
func TestP8SwingsAreFoundAgain(t *testing.T) {
	r := somewhere(223)
	for count := int64(3); count <= 128; count++ {
		for range 3 {
			times := r.whole(1, (count-1)/2)
			wave := complex(r.number(-9, 9), r.number(-9, 9))
			list, ok := impl.SwingList(wave, times, count)
			wantBool(t, "SwingList", ok && int64(len(list)) == count, true)
			found, ok := impl.SwingIn(list, times)
			wantBool(t, "SwingIn", ok, true)
			wantWaveNear(t, "SwingIn", found, wave, 1e-4)
			if other := r.whole(1, (count-1)/2); other != times {
				found, ok = impl.SwingIn(list, other)
				wantBool(t, "SwingIn", ok, true)
				wantWaveNear(t, "another wave", found, 0, 1e-4)
			}
		}
	}
}

// TestP8SwingsTurn checks the reads of waves by the turns that they make.
func TestP8SwingsTurn(t *testing.T) {
	r := somewhere(224)
	for range 200 {
		times, count := r.whole(1, 64), r.whole(1, 128)
		wave := complex(r.number(-9, 9), r.number(-9, 9))
		list, ok := impl.SwingList(wave, times, count)
		wantBool(t, "SwingList", ok && int64(len(list)) == count, true)
		sum, size := complex128(0), 0.0
		for k, read := range list {
			turn := 2 * math.Pi * float64(int64(k)*times%count) / float64(count)
			wantNear(t, "SwingList", read, float64(real(wave))*math.Cos(turn)-float64(imag(wave))*math.Sin(turn), 1e-5)
			sum += complex(float64(read)*math.Cos(turn), -float64(read)*math.Sin(turn))
			size += math.Abs(float64(read))
		}
		want := 2 * sum / complex(float64(count), 0)
		found, ok := impl.SwingIn(list, times)
		wantBool(t, "SwingIn", ok, true)
		wantWaveNear(t, "SwingIn", found, complex64(want), 1e-5*size)
	}
	wantText(t, "SwingList", toldList(impl.SwingList(complex(2, 3), 1, 4)), told([]float32{2, -3, -2, 3}, true))
	// Half a turn is told exactly, because the product is divided, and not a factor of it.
	for count := int64(2); count <= 128; count += 2 {
		for times := int64(1); times <= 63; times += 2 {
			list, ok := impl.SwingList(1i, times, count)
			wantBool(t, "SwingList at half a turn", ok && list[count/2] == 0, true)
		}
	}
}

func TestP8SwingsOfOneRead(t *testing.T) {
	for times := int64(1); times <= 64; times++ {
		for _, read := range []float32{5, -3, 0, num(minusZero)} {
			wantText(t, "SwingIn", toldWave(impl.SwingIn([]float32{read}, times)), toldWave(complex(2*read+0, 0), true))
		}
		wantText(t, "SwingList", toldList(impl.SwingList(complex(5, -7), times, 1)), told([]float32{5}, true))
	}
	_, ok := impl.SwingIn([]float32{num(greatest)}, 1)
	wantBool(t, "SwingIn of too much", ok, false)
}

func TestP8SwingsAreChecked(t *testing.T) {
	for times := int64(-5); times < 80; times++ {
		_, ok := impl.SwingIn([]float32{1, 2, 3}, times)
		wantBool(t, "SwingIn, "+whole(times)+" times", ok, times >= 1 && times <= 64)
	}
	for _, times := range []int64{math.MinInt64, -1 << 32, 1 << 32, 1<<32 + 1, math.MaxInt64} {
		_, ok := impl.SwingIn([]float32{1, 2, 3}, times)
		wantBool(t, "SwingIn, "+whole(times)+" times", ok, false)
	}
	for count := int64(-5); count < 140; count++ {
		list, ok := impl.SwingList(1, 1, count)
		wantBool(t, "SwingList of "+whole(count), ok, count >= 1 && count <= 128)
		wantBool(t, "how many there are", !ok || int64(len(list)) == count, true)
	}
	for _, count := range []int64{math.MinInt64, -1 << 32, 1 << 32, 1<<32 + 1, math.MaxInt64} {
		_, ok := impl.SwingList(1, 1, count)
		wantBool(t, "SwingList of "+whole(count), ok, false)
	}
	for _, bad := range noNumbers() {
		_, first := impl.SwingList(complex(bad, 0), 1, 3)
		_, second := impl.SwingList(complex(0, bad), 1, 3)
		wantBool(t, "SwingList with "+tell(bad), first || second, false)
	}
	great := num(greatest)
	_, ok := impl.SwingList(complex(great, great), 1, 8)
	wantBool(t, "SwingList of too much", ok, false)
	_, ok = impl.SwingIn([]float32{great, num(0xff7fffff)}, 1)
	wantBool(t, "SwingIn of too much", ok, false)
	// Twice the sum is too great, though half of that would not be.
	_, ok = impl.SwingIn([]float32{2e38, 0}, 1)
	wantBool(t, "SwingIn of twice too much", ok, false)
}

// TestP8SwingListsTurnAnyTimes follows the text, which limits times for SwingIn only.
func TestP8SwingListsTurnAnyTimes(t *testing.T) {
	wave := complex(float32(2), float32(3))
	wantText(t, "SwingList, 0 times", toldList(impl.SwingList(wave, 0, 3)), told([]float32{2, 2, 2}, true))
	for times := int64(1); times <= 8; times++ {
		forth, _ := impl.SwingList(wave, times, 8)
		more, ok := impl.SwingList(wave, times+64, 8)
		wantText(t, "SwingList, 64 times more", toldList(more, ok), told(forth, true))
		back, ok := impl.SwingList(impl.ConjugateOf(wave), -times, 8)
		wantBool(t, "SwingList, the other way round", ok, true)
		for k := range back {
			wantNear(t, "SwingList, the other way round", back[k], float64(forth[k]), 1e-5)
		}
	}
	// At least 2 to the power of 52 turns are whole ones.
	for _, times := range []int64{math.MinInt64, math.MaxInt64, 1 << 62} {
		wantText(t, "SwingList, "+whole(times)+" times", toldList(impl.SwingList(wave, times, 3)), told([]float32{2, 2, 2}, true))
	}
}

func TestP8Lags(t *testing.T) {
	r := somewhere(225)
	for range 500 {
		first, lag := r.number(-0.5, 0.5), r.number(-0.499, 0.499)
		a := impl.ScaleComplex(impl.PhasorOf(float64(first)), r.number(0.1, 9))
		b := impl.ScaleComplex(impl.PhasorOf(float64(first)-float64(lag)), r.number(0.1, 9))
		told, ok := impl.LagOfSwings(a, b)
		wantBool(t, "LagOfSwings", ok && told >= -0.5 && told <= 0.5, true)
		wantNear(t, "LagOfSwings", told, float64(lag), 1e-6)
		wantText(t, "a wave and itself", toldNumber(impl.LagOfSwings(a, a)), toldNumber(0, true))
		d := float64(impl.AngleOf(a) - impl.AngleOf(b))
		wantText(t, "LagOfSwings by its bits", digits(told), digits(float32(d-math.Floor(d+0.5))))
	}
	quarter := []complex64{1, -1i, -1, 1i}
	for i, a := range quarter {
		for k, b := range quarter {
			want := []float32{0, 0.25, -0.5, -0.25}[(k-i+4)%4]
			wantText(t, "LagOfSwings of "+tell(a, b), toldNumber(impl.LagOfSwings(a, b)), toldNumber(want, true))
		}
	}
}

func TestP8LagsAreChecked(t *testing.T) {
	zero, minus := float32(0), num(minusZero)
	for _, nothing := range []complex64{0, complex(minus, zero), complex(zero, minus), complex(minus, minus)} {
		_, first := impl.LagOfSwings(nothing, 1)
		_, second := impl.LagOfSwings(1, nothing)
		_, both := impl.LagOfSwings(nothing, nothing)
		wantBool(t, "LagOfSwings of nothing", first || second || both, false)
	}
	for _, bad := range noNumbers() {
		for _, wave := range []complex64{complex(bad, 1), complex(1, bad), complex(bad, bad), complex(bad, 0), complex(0, bad)} {
			_, first := impl.LagOfSwings(wave, 1)
			_, second := impl.LagOfSwings(1, wave)
			wantBool(t, "LagOfSwings of "+tell(wave), first || second, false)
		}
	}
	small := complex(num(leastBits), zero)
	wantText(t, "LagOfSwings of the least waves", toldNumber(impl.LagOfSwings(small, complex(zero, num(0x80000001)))), toldNumber(0.25, true))
	// An angle so small that it is narrowed to -0.
	flat := complex(num(greatest), num(0x80000001))
	wantText(t, "LagOfSwings of a flat wave", toldNumber(impl.LagOfSwings(flat, 1)), toldNumber(minus, true))
}
