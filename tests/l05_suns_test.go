package tests

import (
	"math"
	"slices"
	"testing"

	"loop.example/g01309/impl"
)

func TestP6NoPanes(t *testing.T) {
	for _, none := range [][]float32{nil, {}} {
		wantText(t, "PanesThrough no panes", toldPanes(impl.PanesThrough(none, nil)), told([]float32{1, 0, 0}, true))
		wantText(t, "PanesThrough no panes", toldPanes(impl.PanesThrough(nil, none)), told([]float32{1, 0, 0}, true))
		wantText(t, "PanesThrough without back", toldPanes(impl.PanesThrough([]float32{0.5}, none)), "fail")
		wantText(t, "PanesThrough without through", toldPanes(impl.PanesThrough(none, []float32{0.5})), "fail")
	}
}

func TestP6PanesByHand(t *testing.T) {
	for _, c := range []struct {
		through, back         []float32
		passes, returns, stay float32
	}{
		{[]float32{0.5}, []float32{0.25}, 0.5, 0.25, 0.25},
		{[]float32{1}, []float32{0}, 1, 0, 0},
		{[]float32{0}, []float32{1}, 0, 1, 0},
		{[]float32{0}, []float32{0}, 0, 0, 1},
		{[]float32{1, 0.5, 1}, []float32{0, 0.25, 0}, 0.5, 0.25, 0.25},
		// Between both panes 0.5 goes to and fro: 1 / (1 - 0.5 * 0.5) is 4 / 3.
		{[]float32{0.5, 0.5}, []float32{0.5, 0.5}, 1.0 / 3, 2.0 / 3, 0},
		{[]float32{0.5, 0}, []float32{0.5, 0.5}, 0, 2.0 / 3, 1.0 / 3},
		{[]float32{0.5, 0.5, 0.5}, []float32{0.5, 0.5, 0.5}, 0.25, 0.75, 0},
		{[]float32{0, 0.5}, []float32{1, 0.5}, 0, 1, 0},
	} {
		passes, returns, stays, ok := impl.PanesThrough(c.through, c.back)
		what := "PanesThrough of " + tell(c.through, c.back)
		wantBool(t, what, ok, true)
		wantNear(t, what+", through", passes, float64(c.passes), 1e-6)
		wantNear(t, what+", back", returns, float64(c.returns), 1e-6)
		wantNear(t, what+", what stays", stays, float64(c.stay), 1e-6)
	}
}

func (s *somewhere) panes(count int) (through, back []float32) {
	for range count {
		x := s.number(0, 1)
		through = append(through, x)
		back = append(back, s.number(0, 1)*(1-x))
	}
	return through, back
}

func TestP6PanesLetThroughBothWays(t *testing.T) {
	r := somewhere(81)
	for count := 1; count <= 6; count++ {
		for range 100 {
			through, back := r.panes(count)
			passes, returns, stays, ok := impl.PanesThrough(through, back)
			wantBool(t, "PanesThrough", ok && passes >= 0 && returns >= back[0] && stays >= -1e-6, true)
			wantText(t, "what stays", digits(stays), digits(1-passes-returns))
			slices.Reverse(through)
			slices.Reverse(back)
			other, _, _, _ := impl.PanesThrough(through, back)
			wantNear(t, "PanesThrough in the other order", other, float64(passes), 1e-6)
			if count < 6 {
				less, more, _, _ := impl.PanesThrough(append(through, 0.5), append(back, 0.25))
				wantBool(t, "a pane more lets less through", less <= other && more >= 0, true)
			}
		}
	}
}

func TestP6PanesAreChecked(t *testing.T) {
	half := []float32{0.5, 0.5, 0.5, 0.5, 0.5, 0.5, 0.5}
	for through := range 8 {
		for back := range 8 {
			_, _, _, ok := impl.PanesThrough(half[:through], half[:back])
			wantBool(t, "PanesThrough of so many", ok, through == back && through <= 6)
		}
	}
	for place := range 6 {
		for _, c := range []struct {
			through, back float32
			want          bool
		}{
			{0, 0, true}, {1, 0, true}, {num(minusZero), num(minusZero), true}, {0.75, 0.25, true}, {0.1, 0.9, true},
			{0.75, math.Nextafter32(0.25, 1), true}, // The sum is rounded to 1.
			{0.75, 0.2500001, false}, {0.75, 0.5, false}, {num(0x80000001), 0.5, false}, {0.5, num(0x80000001), false},
			{-1, 1, false}, {1, -1, false}, {num(oneBits + 1), 0, false}, {0, num(oneBits + 1), false},
			{num(plusInf), 0, false}, {0, num(plusInf), false}, {num(minusInf), 0, false}, {0, num(minusInf), false},
			{num(nanBits), 0, false}, {0, num(nanBits), false}, {num(plusInf), num(minusInf), false},
		} {
			through, back := slices.Repeat([]float32{0.5}, 6), slices.Repeat([]float32{0.25}, 6)
			through[place], back[place] = c.through, c.back
			_, _, _, ok := impl.PanesThrough(through, back)
			wantBool(t, "PanesThrough of "+tell(through, back), ok, c.want)
		}
	}
	// Between two panes that give everything back nothing is left to divide by.
	for _, c := range []struct {
		through, back []float32
		want          bool
	}{
		{[]float32{0, 0}, []float32{1, 1}, false},
		{[]float32{0, 0.5, 0}, []float32{0, 0.5, 1}, true},
		{[]float32{0.5, 0, 0.25}, []float32{0.5, 1, 0.5}, true},
		{[]float32{0.5, 0, 0, 0.25}, []float32{0.5, 1, 1, 0.5}, false},
		// The shares of the second pane are 1 only because they are rounded, so
		// that more than all of it comes back to the third one.
		{[]float32{0, 0.75, 0}, []float32{1, 0.25 + 0x1p-24, 1}, false},
		{[]float32{0, 0.75, 0}, []float32{1, 0.25 + 0x1p-24, 0.5}, true},
	} {
		_, _, _, ok := impl.PanesThrough(c.through, c.back)
		wantBool(t, "PanesThrough of "+tell(c.through, c.back), ok, c.want)
	}
}

func TestP6SunsAreAsHighAsTold(t *testing.T) {
	sine := func(turns float64) float64 { return math.Sin(2 * math.Pi * turns) }
	cosine := func(turns float64) float64 { return math.Cos(2 * math.Pi * turns) }
	r := somewhere(82)
	for range 500 {
		north, season, hour := r.number(-0.25, 0.25), r.number(0, 1), r.number(0, 1)
		height, ok := impl.SunHeight(north, season, hour)
		wantBool(t, "SunHeight", ok && height >= -0.25 && height <= 0.25, true)
		n, d := float64(north), 0.0651*sine(float64(season)-0.22)
		s := sine(n)*sine(d) + cosine(n)*cosine(d)*cosine(float64(hour)-0.5)
		wantNear(t, "SunHeight", height, math.Asin(s)/(2*math.Pi), 1e-3)
		wantNear(t, "the sine of SunHeight", impl.SineTurns(height), s, 1e-5)
		noon, _ := impl.SunHeight(north, season, 0.5)
		wantBool(t, "the sun is never higher than at noon", noon >= height-1e-3, true)
	}
	// In summer the sun never goes down at the pole, and in winter it never comes up.
	for hour := range 25 {
		summer, _ := impl.SunHeight(0.25, 0.47, float32(hour)/24)
		winter, _ := impl.SunHeight(0.25, 0.97, float32(hour)/24)
		wantNear(t, "the sun at the pole in summer", summer, 0.0651, 1e-4)
		wantNear(t, "the sun at the pole in winter", winter, -0.0651, 1e-4)
	}
}

// TestP6SunsOverhead checks heights whose sine is rounded to more than 1, from which no root is left.
func TestP6SunsOverhead(t *testing.T) {
	over := 0
	for i := range 4000 {
		season := float32(i) / 4000
		d := 0.0651 * float64(impl.SineTurns(season-0.22))
		height, ok := impl.SunHeight(float32(d), season, 0.5)
		wantBool(t, "SunHeight overhead", ok, true)
		wantNear(t, "SunHeight overhead", height, 0.25, 1e-3)
		if height == 0.25 {
			over++
		}
	}
	wantBool(t, "some suns are overhead", over > 100, true)
}

func TestP6PlacesSeasonsAndHoursAreChecked(t *testing.T) {
	for _, c := range []struct {
		north, season, hour float32
		want                bool
	}{
		{0.25, 0, 0, true}, {-0.25, 1, 1, true}, {0, num(minusZero), num(minusZero), true}, {num(leastBits), num(leastBits), num(leastBits), true},
		{math.Nextafter32(0.25, 1), 0.5, 0.5, false}, {math.Nextafter32(-0.25, -1), 0.5, 0.5, false},
		{0, num(0x80000001), 0.5, false}, {0, num(oneBits + 1), 0.5, false}, {0, 0.5, num(0x80000001), false}, {0, 0.5, num(oneBits + 1), false},
		{num(plusInf), 0, 0, false}, {0, num(plusInf), 0, false}, {0, 0, num(plusInf), false},
		{num(minusInf), 0, 0, false}, {0, num(minusInf), 0, false}, {0, 0, num(minusInf), false},
		{num(nanBits), 0, 0, false}, {0, num(nanBits), 0, false}, {0, 0, num(nanBits), false},
	} {
		what := " of " + tell(c.north, c.season, c.hour)
		_, ok := impl.SunHeight(c.north, c.season, c.hour)
		wantBool(t, "SunHeight"+what, ok, c.want)
		if c.hour == 0 {
			_, ok = impl.SunDay(c.north, c.season, 1, 1)
			wantBool(t, "SunDay"+what, ok, c.want)
			_, ok = impl.DayShared([]float32{0, c.north}, c.season, 1, 1, 2)
			wantBool(t, "DayShared"+what, ok, c.want)
		}
	}
}

func TestP6FacesInTheSun(t *testing.T) {
	for _, c := range []struct {
		what                                string
		height, turn, tilt, face, beam, sky float32
		want                                float64
	}{
		{"flat, the sun overhead", 0.25, 0, 0, 0, 10, 4, 14},
		{"flat, the sun half as high", 1.0 / 12, 0.3, 0, 0.7, 10, 4, 5 + 4},
		{"upright, towards the sun", 1.0 / 12, 0.3, 0.25, 0.3, 10, 4, 10*math.Sqrt(3)/2 + 2},
		{"upright, turned by a sixth", 1.0 / 12, 0.3, 0.25, 0.3 - 1.0/6, 10, 4, 10*math.Sqrt(3)/4 + 2},
		{"upright, away from the sun", 1.0 / 12, 0.3, 0.25, 0.8, 10, 4, 2},
		{"upside down", 1.0 / 12, 0.3, 0.5, 0.3, 10, 4, 0},
		{"tilted, straight to the sun", 0.125, 0.25, 0.125, 0.25, 10, 4, 10 + 4*(1+math.Sqrt2/2)/2},
		{"flat, at night", -0.125, 0, 0, 0, 10, 4, 4},
		{"towards the sun, but at night", -0.0625, 0.3, 0.25, 0.3, 10, 4, 2},
		{"the sun on the horizon", 0, 0.3, 0.25, 0.3, 10, 4, 2},
		{"no beam and no sky", 0.125, 0, 0, 0, 0, 0, 0},
		{"a whole turn more", 0.125, 1.25, 0.125, 0.25, 10, 0, 10},
		{"the other way round a whole turn", 0.125, 0.25, 0.125, 1.25, 10, 0, 10},
	} {
		comes, ok := impl.SunOnFace(c.height, c.turn, c.tilt, c.face, c.beam, c.sky)
		wantBool(t, c.what, ok, true)
		wantNear(t, c.what, comes, c.want, 1e-5)
	}
	r := somewhere(83)
	for range 300 {
		height, turn, tilt, look := r.number(0, 0.25), r.number(-1, 1), r.number(0, 0.5), r.number(-1, 1)
		one, _ := impl.SunOnFace(height, turn, tilt, look, 10, 0)
		most, _ := impl.SunOnFace(height, turn, 0.25-height, turn, 10, 0)
		wantBool(t, "no face gets more than one that looks to the sun", one <= most+1e-5, true)
		wantNear(t, "a face that looks to the sun", most, 10, 1e-5)
		sky, _ := impl.SunOnFace(height, turn, tilt, look, 10, 4)
		wantNear(t, "the sky", sky-one, 4*math.Pow(math.Cos(math.Pi*float64(tilt)), 2), 1e-5)
	}
}

func TestP6FacesInTheSunAreChecked(t *testing.T) {
	good := []float32{0.125, 0.5, 0.25, 0.5, 10, 4}
	call := func(x []float32) bool {
		_, ok := impl.SunOnFace(x[0], x[1], x[2], x[3], x[4], x[5])
		return ok
	}
	check := func(place int, x float32, want bool) {
		t.Helper()
		list := slices.Clone(good)
		list[place] = x
		wantBool(t, "SunOnFace of "+tell(list), call(list), want)
	}
	for place := range good {
		for _, bits := range []uint32{plusInf, minusInf, nanBits} {
			check(place, num(bits), false)
		}
		check(place, 0, true)
		check(place, num(minusZero), true)
		check(place, -0.125, place == 0 || place == 1 || place == 3)
		check(place, num(0x80000001), place == 0 || place == 1 || place == 3)
		check(place, -3e38, place == 1 || place == 3)
		check(place, 3e38, place != 0 && place != 2)
	}
	check(0, 0.25, true)
	check(0, -0.25, true)
	check(0, math.Nextafter32(0.25, 1), false)
	check(0, math.Nextafter32(-0.25, -1), false)
	check(2, 0.5, true)
	check(2, math.Nextafter32(0.5, 1), false)
	wantBool(t, "SunOnFace of too much", call([]float32{0.25, 0, 0, 0, num(greatest), num(greatest)}), false)
	// The sun in the plane of an upright face has a sine of -0, which is not greater than 0.
	wantText(t, "SunOnFace along it", toldNumber(impl.SunOnFace(0.125, 0.25, 0.25, 0, 10, num(minusZero))), toldNumber(0, true))
	// A turn that is not finite behind the face has been taken from it shines on nothing.
	comes, ok := impl.SunOnFace(0.125, 3e38, 0.25, -3e38, 10, 4)
	wantBool(t, "SunOnFace with great turns", ok, true)
	wantNear(t, "SunOnFace with great turns", comes, 2, 1e-6)
}

func TestP6DaysAreHoursOneAfterAnother(t *testing.T) {
	r := somewhere(84)
	for count := int64(1); count <= 64; count++ {
		north, season, beam := r.number(-0.25, 0.25), r.number(0, 1), r.number(-100, 900)
		var want []float32
		for k := range count {
			height, _ := impl.SunHeight(north, season, float32(k)/float32(count))
			comes := beam * impl.SineTurns(height)
			if !(comes > 0) {
				comes = 0
			}
			want = append(want, comes)
		}
		wantText(t, "SunDay", toldList(impl.SunDay(north, season, beam, count)), told(want, true))
	}
	for _, count := range []int64{0, -1, 65, 1 << 32, math.MinInt64, math.MaxInt64} {
		_, ok := impl.SunDay(0, 0.22, 1, count)
		wantBool(t, "SunDay with "+impl.Decimal(count)+" hours", ok, false)
		for _, norths := range [][]float32{nil, {0}} {
			_, ok = impl.DayShared(norths, 0.22, 1, count, 1)
			wantBool(t, "DayShared with "+impl.Decimal(count)+" hours", ok, false)
		}
	}
	for _, zero := range []float32{0, num(minusZero)} {
		wantText(t, "SunDay without a beam", toldList(impl.SunDay(0, 0.22, zero, 4)), told([]float32{0, 0, 0, 0}, true))
	}
	night, ok := impl.SunDay(0, 0.22, -8, 2)
	wantBool(t, "a beam less than 0 counts at night", ok && night[0] == 8 && bitsOf(night[1]) == plusZero, true)
}

func TestP6WorkersSumTheSameDays(t *testing.T) {
	r := somewhere(85)
	for count := range 33 {
		var norths, want []float32
		season, beam, hours := r.number(0, 1), r.number(100, 900), r.whole(1, 64)
		for range count {
			north := r.number(-0.25, 0.25)
			day, _ := impl.SunDay(north, season, beam, hours)
			sum, _ := impl.SumNumbers(day)
			norths, want = append(norths, north), append(want, sum)
		}
		for workers := int64(1); workers <= 8; workers++ {
			sums, ok := impl.DayShared(norths, season, beam, hours, workers)
			wantText(t, "DayShared", toldList(sums, ok), toldList(want, true))
		}
	}
}

// TestP6WorkersAreAskedWithoutNorths checks that all else is asked for at no norths, too.
func TestP6WorkersAreAskedWithoutNorths(t *testing.T) {
	for _, norths := range [][]float32{nil, {}, {0.1}, slices.Repeat([]float32{0.1}, 32)} {
		for _, workers := range []int64{0, -1, 9, 1 << 32, math.MinInt64, math.MaxInt64} {
			_, ok := impl.DayShared(norths, 0.22, 8, 2, workers)
			wantBool(t, "DayShared with "+impl.Decimal(workers)+" workers", ok, false)
		}
		for workers := int64(1); workers <= 8; workers++ {
			_, ok := impl.DayShared(norths, 0.22, 8, 2, workers)
			wantBool(t, "DayShared", ok, true)
			for _, bits := range []uint32{plusInf, minusInf, nanBits} {
				_, ok = impl.DayShared(norths, 0.22, num(bits), 2, workers)
				wantBool(t, "DayShared with the beam "+hex(bits), ok, false)
			}
			for _, bits := range []uint32{0x80000001, oneBits + 1, plusInf, minusInf, nanBits} {
				_, ok = impl.DayShared(norths, num(bits), 8, 2, workers)
				wantBool(t, "DayShared with the season "+hex(bits), ok, false)
			}
		}
	}
	_, ok := impl.DayShared(make([]float32, 33), 0.22, 8, 2, 1)
	wantBool(t, "DayShared of 33 norths", ok, false)
	for place := range 20 {
		norths := make([]float32, 20)
		norths[place] = 0.3
		_, ok = impl.DayShared(norths, 0.22, 8, 2, 3)
		wantBool(t, "DayShared of a north that is too far", ok, false)
	}
	// Each hour is finite, but not their sum.
	_, ok = impl.SunDay(0, 0.22, num(greatest), 8)
	wantBool(t, "SunDay of very much", ok, true)
	_, ok = impl.DayShared([]float32{0.25, 0}, 0.22, num(greatest), 8, 2)
	wantBool(t, "DayShared of too much", ok, false)
}
