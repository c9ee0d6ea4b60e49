package tests

import (
	"math"
	"slices"
	"testing"

	"loop.example/g01309/impl"
)

func TestP4ErrorsByTheirBits(t *testing.T) {
	for _, c := range errorCases {
		wantText(t, "ErrorOf "+c[0], toldNumber(impl.ErrorOf(numbers(c[0])[0])), c[1])
	}
	for _, bits := range []uint32{plusInf, minusInf, nanBits, 0xffc00000, 0x7f800001} {
		wantText(t, "ErrorOf "+hex(bits), toldNumber(impl.ErrorOf(num(bits))), "fail")
	}
	for i := -1000; i <= 1000; i++ {
		x := float32(i) / 200
		y, _ := impl.ErrorOf(x)
		wantNear(t, "ErrorOf "+digits(x), y, math.Erf(float64(x)), 1e-7)
	}
}

func TestP4Roots(t *testing.T) {
	for _, c := range rootCases {
		wantText(t, "StefanRoot of "+c[0], toldNumber(impl.StefanRoot(numbers(c[0])[0])), c[1])
	}
	for _, bits := range []uint32{plusZero, minusZero, 0x80000001, bitsOf(-1), plusInf, minusInf, nanBits} {
		wantText(t, "StefanRoot of "+hex(bits), toldNumber(impl.StefanRoot(num(bits))), "fail")
	}
	for i := -40; i <= 40; i++ {
		size := float32(math.Pow(10, float64(i)/10))
		root, _ := impl.StefanRoot(size)
		l := float64(root)
		got := math.Sqrt(math.Pi) * l * math.Exp(l*l) * math.Erf(l)
		wantNear(t, "what StefanRoot leads to", float32(got/float64(size)), 1, 1e-5)
	}
}

func TestP4Fronts(t *testing.T) {
	for _, c := range frontCases {
		list := numbers(c[1])
		wantText(t, "FrontAt of "+c[0]+" at "+c[1], toldNumber(impl.FrontAt(stuffOf(numbers(c[0])), list[0], list[1])), c[2])
	}
	r := somewhere(21)
	for range 100 {
		// In four times as long a front comes twice as far, and a warmer one comes farther.
		s, time := r.stuff(), r.number(0.1, 50)
		warm := s.Point + r.number(1, 20)
		near, ok := impl.FrontAt(s, warm, time)
		far, both := impl.FrontAt(s, warm, 4*time)
		farther, all := impl.FrontAt(s, warm+1, time)
		wantBool(t, "FrontAt", ok && both && all && farther > near, true)
		wantText(t, "FrontAt in four times as long", digits(far), digits(2*near))
	}
}

// TestP4FrontsInBarsComeAsFarAsTold holds the fronts of a bar against FrontAt.
func TestP4FrontsInBarsComeAsFarAsTold(t *testing.T) {
	s := impl.Stuff{Solid: 1, Fluid: 1, EaseSolid: 1, EaseFluid: 1, Point: 0, Latent: 4}
	b, _ := impl.EvenBar(s, 48, 1, 0, 0)
	for range 10 {
		b, _, _ = impl.RunBar(b, 4, 0, true, false, 0.25, 100)
	}
	fronts, ok := impl.FrontsOf(b)
	place, _ := impl.FrontAt(s, 4, 250)
	wantBool(t, "a bar that is held warm has one front", ok && len(fronts) == 1, true)
	wantNear(t, "the front", fronts[0], float64(place), 1.5)
}

func TestP4Ice(t *testing.T) {
	for _, c := range iceCases {
		x := numbers(c[1])
		wantText(t, "GrowIce of "+c[0]+" with "+c[1], toldNumber(impl.GrowIce(stuffOf(numbers(c[0])), x[0], x[1], x[2], x[3])), c[2])
	}
	for _, c := range iceRunCases {
		x := numbers(c[1])
		got := told(impl.RunIce(stuffOf(numbers(c[0])), x[0], x[1], numbers(c[2]), x[2]))
		wantText(t, "RunIce of "+c[0]+" with "+c[1]+" at "+c[2], got, c[3])
	}
}

func TestP4RunsOfIceAreTicksOneAfterAnother(t *testing.T) {
	r := somewhere(22)
	s := r.stuff()
	var airs []float32
	for range 128 {
		airs = append(airs, s.Point+r.number(-20, 5))
	}
	ice := float32(0.5)
	var want []float32
	for i, air := range airs {
		ice, _ = impl.GrowIce(s, ice, 0.25, air, 0.125)
		want = append(want, ice)
		wantText(t, "RunIce", told(impl.RunIce(s, 0.5, 0.25, airs[:i+1], 0.125)), told(want, true))
	}
	wantText(t, "RunIce at 129 airs", told(impl.RunIce(s, 0.5, 0.25, append(airs, 1), 0.125)), "fail")
	wantText(t, "RunIce at no airs", told(impl.RunIce(s, 0.5, 0.25, nil, 0.125)), "")
}

// TestP4IceIsAskedWithoutAirs checks that the ice, the skin and the tick are asked for at no airs, too.
func TestP4IceIsAskedWithoutAirs(t *testing.T) {
	for _, c := range []struct {
		ice, skin, tick float32
		want            bool
	}{
		{1, 1, 1, true}, {0, 1, 1, true}, {1, 0, 1, true}, {num(minusZero), 1, 1, true}, {1, num(minusZero), 1, true},
		{num(leastBits), 0, num(leastBits), true}, {num(greatest), 0, num(greatest), true},
		{0, 0, 1, false}, {num(minusZero), num(minusZero), 1, false}, {num(greatest), num(greatest), 1, false},
		{-1, 3, 1, false}, {3, -1, 1, false}, {num(0x80000001), 1, 1, false}, {1, num(0x80000001), 1, false},
		{1, 1, 0, false}, {1, 1, num(minusZero), false}, {1, 1, -1, false},
		{num(plusInf), 1, 1, false}, {1, num(plusInf), 1, false}, {1, 1, num(plusInf), false},
		{num(nanBits), 1, 1, false}, {1, num(nanBits), 1, false}, {1, 1, num(nanBits), false},
	} {
		_, ok := impl.RunIce(evenStuff(), c.ice, c.skin, nil, c.tick)
		wantBool(t, "RunIce with "+told([]float32{c.ice, c.skin, c.tick}, true), ok, c.want)
	}
}

func TestP4SaltyWater(t *testing.T) {
	for _, c := range freezeCases {
		wantText(t, "FreezePoint of "+c[0], toldNumber(impl.FreezePoint(numbers(c[0])[0])), c[1])
	}
	for _, c := range brineCases {
		x := numbers(c[0])
		wantText(t, "BrineShare of "+c[0], toldNumber(impl.BrineShare(x[0], x[1])), c[1])
	}
}

func TestP4ValidCups(t *testing.T) {
	for _, mass := range []int64{1, 2, 999999, 1000000} {
		for _, c := range []struct {
			heat int64
			want bool
		}{
			{-50 * mass, true}, {-50*mass - 1, false}, {180 * mass, true}, {180*mass + 1, false}, {0, true}, {80 * mass, true},
			{math.MinInt64, false}, {math.MaxInt64, false},
		} {
			cup := impl.Cup{Mass: mass, Heat: c.heat}
			wantBool(t, "ValidCup of "+tell(cup), impl.ValidCup(cup), c.want)
		}
	}
	for _, mass := range []int64{0, -1, 1000001, 1 << 32, 1 << 62, math.MinInt64, math.MaxInt64} {
		for _, heat := range []int64{0, mass, -1, math.MinInt64, math.MaxInt64} {
			cup := impl.Cup{Mass: mass, Heat: heat}
			wantBool(t, "ValidCup of "+tell(cup), impl.ValidCup(cup), false)
		}
	}
}

// invalidCups are cups each of which is wrong in one way.
func invalidCups() []impl.Cup {
	return []impl.Cup{{}, {Mass: -1}, {Mass: 1000001}, {Mass: 1, Heat: 181}, {Mass: 1, Heat: -51},
		{Mass: math.MinInt64, Heat: math.MinInt64}, {Mass: math.MaxInt64, Heat: math.MaxInt64}}
}

func TestP4InvalidCupsFail(t *testing.T) {
	good := impl.Cup{Mass: 10, Heat: 400}
	for _, bad := range invalidCups() {
		wantText(t, "MixCups with "+tell(bad), tell(impl.MixCups(good, bad)), tell(impl.Cup{}, false))
		wantText(t, "MixCups of "+tell(bad), tell(impl.MixCups(bad, good)), tell(impl.Cup{}, false))
		wantText(t, "HeatCup of "+tell(bad), tell(impl.HeatCup(bad, 1)), tell(impl.Cup{}, false))
		wantText(t, "MeltedInCup of "+tell(bad), tell(impl.MeltedInCup(bad)), tell(int64(0), false))
		wantText(t, "WarmOfCup of "+tell(bad), tell(impl.WarmOfCup(bad)), tell(int64(0), int64(0), false))
	}
	// By this much heat each of them would be valid.
	for _, c := range []struct {
		cup impl.Cup
		by  int64
	}{{impl.Cup{Mass: 1, Heat: 181}, -1}, {impl.Cup{Mass: 1, Heat: -51}, 1}} {
		wantText(t, "HeatCup", tell(impl.HeatCup(c.cup, c.by)), tell(impl.Cup{}, false))
	}
}

func (s *somewhere) cup(most int64) impl.Cup {
	mass := s.whole(1, most)
	return impl.Cup{Mass: mass, Heat: s.whole(-50*mass, 180*mass)}
}

func TestP4CupsThatAreMixedKeepAll(t *testing.T) {
	r := somewhere(23)
	for range 1000 {
		a, b := r.cup(500000), r.cup(500000)
		mixed, ok := impl.MixCups(a, b)
		wantText(t, "MixCups", tell(mixed, ok), tell(impl.Cup{Mass: a.Mass + b.Mass, Heat: a.Heat + b.Heat}, true))
		turned, _ := impl.MixCups(b, a)
		wantText(t, "MixCups, turned", tell(turned), tell(mixed))
		back, ok := impl.HeatCup(mixed, -b.Heat)
		if a.Heat <= 180*mixed.Mass && a.Heat >= -50*mixed.Mass {
			wantText(t, "HeatCup", tell(back, ok), tell(impl.Cup{Mass: mixed.Mass, Heat: a.Heat}, true))
		}
	}
}

// TestP4FullCups has cups whose mass or heat cannot be greater.
func TestP4FullCups(t *testing.T) {
	half := impl.Cup{Mass: 500000, Heat: 180 * 500000}
	full, ok := impl.MixCups(half, half)
	wantText(t, "MixCups to a full cup", tell(full, ok), tell(impl.Cup{Mass: 1000000, Heat: 180000000}, true))
	for _, one := range []impl.Cup{{Mass: 1}, {Mass: 1, Heat: -50}, {Mass: 1, Heat: 180}, full} {
		wantText(t, "MixCups to more", tell(impl.MixCups(full, one)), tell(impl.Cup{}, false))
		wantText(t, "MixCups to more", tell(impl.MixCups(one, full)), tell(impl.Cup{}, false))
	}
	cold, ok := impl.HeatCup(full, -230000000)
	wantText(t, "HeatCup to the coldest cup", tell(cold, ok), tell(impl.Cup{Mass: 1000000, Heat: -50000000}, true))
	wantText(t, "HeatCup by 0", tell(impl.HeatCup(full, 0)), tell(full, true))
	for _, by := range []int64{1, -230000001, 1000000000, -1000000000, 1000000001, -1000000001, math.MinInt64, math.MaxInt64} {
		wantText(t, "HeatCup by "+impl.Decimal(by), tell(impl.HeatCup(full, by)), tell(impl.Cup{}, false))
	}
	wantText(t, "MeltedInCup", tell(impl.MeltedInCup(full)), tell(int64(1000000), true))
	wantText(t, "WarmOfCup", tell(impl.WarmOfCup(full)), tell(int64(100), int64(1), true))
	wantText(t, "WarmOfCup of the coldest cup", tell(impl.WarmOfCup(cold)), tell(int64(-100), int64(1), true))
}

func TestP4CupsMelt(t *testing.T) {
	for _, c := range []struct{ mass, heat, melted, upper, lower int64 }{
		{10, 400, 5, 0, 1}, {10, -500, 0, -100, 1}, {10, -50, 0, -10, 1}, {10, -1, 0, -1, 5}, {10, -3, 0, -3, 5},
		{10, 0, 0, 0, 1}, {10, 1, 0, 0, 1}, {10, 79, 0, 0, 1}, {10, 80, 1, 0, 1}, {10, 799, 9, 0, 1},
		{10, 800, 10, 0, 1}, {10, 801, 10, 1, 10}, {10, 805, 10, 1, 2}, {10, 900, 10, 10, 1}, {10, 1800, 10, 100, 1},
		{1, -50, 0, -100, 1}, {1, -1, 0, -2, 1}, {1, 80, 1, 0, 1}, {1, 81, 1, 1, 1}, {1, 180, 1, 100, 1},
		{7, -3, 0, -6, 7}, {6, -4, 0, -4, 3}, {7, 561, 7, 1, 7}, {12, 968, 12, 2, 3}, {999999, -999998, 0, -1999996, 999999},
		{1000000, 80000001, 1000000, 1, 1000000}, {1000000, -1, 0, -1, 500000}, {1000000, 79999999, 999999, 0, 1},
	} {
		cup := impl.Cup{Mass: c.mass, Heat: c.heat}
		wantText(t, "MeltedInCup of "+tell(cup), tell(impl.MeltedInCup(cup)), tell(c.melted, true))
		wantText(t, "WarmOfCup of "+tell(cup), tell(impl.WarmOfCup(cup)), tell(c.upper, c.lower, true))
	}
}

// TestP4WarmCupsAreToldInLowestTerms finds the common divisors of small cups by trying all.
func TestP4WarmCupsAreToldInLowestTerms(t *testing.T) {
	for mass := int64(1); mass <= 12; mass++ {
		for heat := -50 * mass; heat <= 180*mass; heat++ {
			times := 2 * heat
			if heat >= 0 {
				times = max(0, heat-80*mass)
			}
			upper, lower, ok := impl.WarmOfCup(impl.Cup{Mass: mass, Heat: heat})
			common := slices.ContainsFunc([]int64{2, 3, 5, 7, 11}, func(d int64) bool { return upper%d == 0 && lower%d == 0 })
			if !ok || lower < 1 || upper*mass != times*lower || common {
				t.Errorf("WarmOfCup of %d and %d: got %d / %d, %v", mass, heat, upper, lower, ok)
			}
		}
	}
}
