package tests

import (
	"math"
	"slices"
	"testing"

	"loop.example/g01309/impl"
)

func TestP7ValidHeaters(t *testing.T) {
	for room := range int64(8) {
		for _, x := range []impl.Heater{
			heater(room, 4, 18, 20), turnedOn(heater(room, 0, -2, 0)), heater(room, num(minusZero), num(minusZero), num(leastBits)),
			heater(room, num(greatest), num(0xff7fffff), num(greatest)),
		} {
			wantBool(t, "ValidHeater of "+tell(x), impl.ValidHeater(x), true)
			_, _, ok := impl.TurnHeater(x, 3)
			wantBool(t, "TurnHeater of "+tell(x), ok, true)
		}
	}
	for _, x := range invalidHeaters() {
		for _, y := range []impl.Heater{x, turnedOn(x)} {
			wantBool(t, "ValidHeater of "+tell(y), impl.ValidHeater(y), false)
			_, _, ok := impl.TurnHeater(y, 19)
			wantBool(t, "TurnHeater of "+tell(y), ok, false)
		}
	}
}

func TestP7SameHeaters(t *testing.T) {
	list := func() []impl.Heater { return []impl.Heater{heater(0, 4, 18, 20), turnedOn(heater(1, 0, -2, 3))} }
	checkSame(t, "SameHeaters of equal ones", impl.SameHeaters, list(), list(), true)
	for place := range list() {
		for field := range 3 {
			one, other := list(), list()
			first := []*float32{&one[place].Power, &one[place].Low, &one[place].High}[field]
			second := []*float32{&other[place].Power, &other[place].Low, &other[place].High}[field]
			*first, *second = 1, 2
			checkSame(t, "SameHeaters with other numbers", impl.SameHeaters, one, other, false)
			*first, *second = 0, num(minusZero)
			checkSame(t, "SameHeaters with both zeros", impl.SameHeaters, one, other, false)
			*first, *second = num(nanBits), num(0xff800001)
			checkSame(t, "SameHeaters with not-a-numbers", impl.SameHeaters, one, other, true)
			*second = num(plusInf)
			checkSame(t, "SameHeaters with an infinity", impl.SameHeaters, one, other, false)
		}
		other := list()
		other[place].On = !other[place].On
		checkSame(t, "SameHeaters with one that is turned", impl.SameHeaters, list(), other, false)
		for _, room := range []int64{-1, 5, 1 << 32} {
			other = list()
			other[place].Room += room
			checkSame(t, "SameHeaters in other rooms", impl.SameHeaters, list(), other, false)
			checkSame(t, "SameHeaters in such rooms", impl.SameHeaters, slices.Clone(other), other, true)
		}
	}
	checkSame(t, "SameHeaters in another order", impl.SameHeaters, list(), []impl.Heater{list()[1], list()[0]}, false)
	checkSame(t, "SameHeaters of a beginning", impl.SameHeaters, list(), list()[:1], false)
	checkSame(t, "SameHeaters of nothing", impl.SameHeaters, nil, []impl.Heater{}, true)
	many := slices.Repeat(list(), 30)
	checkSame(t, "SameHeaters of many", impl.SameHeaters, many, slices.Clone(many), true)
}

// TestP7HeatersBetweenTheirBounds checks that only what is beyond a bound turns a heater.
func TestP7HeatersBetweenTheirBounds(t *testing.T) {
	for _, bounds := range [][2]float32{{18, 20}, {-3, 4}, {0, num(leastBits)}, {-1, num(minusZero)}, {num(0xff7fffff), num(greatest)}} {
		low, high := bounds[0], bounds[1]
		below, above := math.Nextafter32(low, float32(math.Inf(-1))), math.Nextafter32(high, float32(math.Inf(1)))
		for _, power := range []float32{4, 0, num(minusZero)} {
			off := heater(7, power, low, high)
			on := turnedOn(off)
			for _, warm := range []float32{low, low/2 + high/2, high} {
				wantText(t, "TurnHeater stays off", toldTurned(impl.TurnHeater(off, warm)), toldTurned(off, 0, true))
				wantText(t, "TurnHeater stays on", toldTurned(impl.TurnHeater(on, warm)), toldTurned(on, power, true))
			}
			for _, x := range []impl.Heater{off, on} {
				wantText(t, "TurnHeater below", toldTurned(impl.TurnHeater(x, below)), toldTurned(on, power, below-below == 0))
				wantText(t, "TurnHeater above", toldTurned(impl.TurnHeater(x, above)), toldTurned(off, 0, above-above == 0))
			}
		}
	}
	// Both zeros are equal, so that neither is less than the other one.
	on := turnedOn(heater(0, 4, 0, 1))
	wantText(t, "TurnHeater at -0", toldTurned(impl.TurnHeater(heater(0, 4, 0, 1), num(minusZero))), toldTurned(heater(0, 4, 0, 1), 0, true))
	wantText(t, "TurnHeater at -0", toldTurned(impl.TurnHeater(on, num(minusZero))), toldTurned(on, 4, true))
	for _, bits := range []uint32{plusInf, minusInf, nanBits} {
		_, _, ok := impl.TurnHeater(on, num(bits))
		wantBool(t, "TurnHeater at "+hex(bits), ok, false)
	}
}

// heatedByHand does what RunHeaters does, with the functions that it takes.
func heatedByHand(h impl.House, list []impl.Heater, outsides []float32, tick float32) string {
	heaters, counts := slices.Clone(list), make([]int64, len(list))
	for _, outside := range outsides {
		powers := make([]float32, len(h.Warms))
		for i := range heaters {
			var power float32
			heaters[i], power, _ = impl.TurnHeater(heaters[i], h.Warms[heaters[i].Room])
			powers[heaters[i].Room] += power
			if heaters[i].On {
				counts[i]++
			}
		}
		h, _ = impl.StepHouse(h, powers, outside, tick)
	}
	return toldHeated(h, heaters, counts, true)
}

func (s *somewhere) heaters(count int, rooms int64) []impl.Heater {
	var list []impl.Heater
	for range count {
		low := s.number(5, 20)
		x := heater(s.whole(0, rooms-1), s.number(0, 15), low, low+s.number(0.1, 6))
		x.On = s.whole(0, 1) == 1
		list = append(list, x)
	}
	return list
}

func TestP7HeatersRun(t *testing.T) {
	r := somewhere(111)
	for count := range 9 {
		for rooms := int64(1); rooms <= 8; rooms++ {
			for _, ticks := range []int{0, 1, 2, 25, 96} {
				h, list, outsides := r.house(rooms), r.heaters(count, rooms), r.list(ticks, -15, 10)
				got := toldHeated(impl.RunHeaters(h, list, outsides, 0.05))
				wantText(t, "RunHeaters", got, heatedByHand(h, list, outsides, 0.05))
			}
		}
	}
	h, list := r.house(3), r.heaters(4, 3)
	wantText(t, "RunHeaters without ticks", toldHeated(impl.RunHeaters(h, list, nil, 1)), toldHeated(h, list, make([]int64, 4), true))
}

func TestP7HeatersAreCounted(t *testing.T) {
	one := houseWith(10)
	list := []impl.Heater{heater(0, 0, 50, 60), heater(0, 0, 0, 5), heater(0, 0, 9, 11), turnedOn(heater(0, 0, 9, 11)), turnedOn(heater(0, 0, 0, 5))}
	for _, ticks := range []int{0, 1, 7, 96} {
		_, after, counts, ok := impl.RunHeaters(one, list, make([]float32, ticks), 0)
		n := int64(ticks)
		wantText(t, "how long heaters are on", toldWholes(counts, ok), wholes([]int64{n, 0, 0, n, 0}))
		want := slices.Clone(list)
		want[0].On, want[4].On = ticks > 0, ticks == 0
		wantText(t, "the heaters behind", tell(after), tell(want))
	}
}

// TestP7HeatersHoldRooms checks that a room that is heated comes to its bounds and stays near them.
func TestP7HeatersHoldRooms(t *testing.T) {
	h, _ := impl.RowHouse(3, 2, 0.25, 0.5, 5)
	list := []impl.Heater{heater(0, 12, 18, 20), heater(1, 12, 18, 20), heater(2, 12, 18, 20)}
	for range 5 {
		h, list, _, _ = impl.RunHeaters(h, list, make([]float32, 96), 0.1)
	}
	for range 96 {
		h, list, _, _ = impl.RunHeaters(h, list, []float32{0}, 0.1)
		for _, warm := range h.Warms {
			wantNear(t, "a room that is heated", warm, 19, 1.7)
		}
	}
}

func TestP7HeatersAreChecked(t *testing.T) {
	h, x := threeRooms(), heater(2, 1, 18, 20)
	for _, outsides := range [][]float32{nil, {1}, {1, 2, 3}} {
		for count := range 12 {
			_, _, _, ok := impl.RunHeaters(h, slices.Repeat([]impl.Heater{x}, count), outsides, 1)
			wantBool(t, "RunHeaters with "+whole(int64(count)), ok, count <= 8)
		}
		for _, bad := range append(invalidHeaters(), heater(3, 1, 18, 20), heater(7, 1, 18, 20)) {
			for place := range 3 {
				list := []impl.Heater{x, x, x}
				list[place] = bad
				_, _, _, ok := impl.RunHeaters(h, list, outsides, 1)
				wantBool(t, "RunHeaters with "+tell(list), ok, false)
			}
		}
	}
	for count := range 120 {
		_, _, counts, ok := impl.RunHeaters(h, []impl.Heater{x}, make([]float32, count), 0)
		wantBool(t, "RunHeaters for some ticks", ok && len(counts) == 1, count <= 96)
	}
	for _, bits := range []uint32{plusInf, minusInf, nanBits} {
		for place := range 3 {
			outsides := []float32{1, 2, 3}
			outsides[place] = num(bits)
			_, _, _, ok := impl.RunHeaters(h, []impl.Heater{x}, outsides, 0)
			wantBool(t, "RunHeaters with the outside "+hex(bits), ok, false)
		}
	}
	// Two powers whose sum is not finite, which nothing asks for without a tick.
	great := turnedOn(heater(0, num(greatest), 18, 90))
	_, _, _, ok := impl.RunHeaters(h, []impl.Heater{great, great}, []float32{1}, 0)
	wantBool(t, "RunHeaters with great powers", ok, false)
	_, _, _, ok = impl.RunHeaters(h, []impl.Heater{great, great}, nil, 0)
	wantBool(t, "RunHeaters with great powers and no tick", ok, true)
}

func TestP7Pumps(t *testing.T) {
	r := somewhere(112)
	for range 300 {
		inside, outside, quality := r.number(15, 40), r.number(-25, 14), r.number(0.05, 1)
		factor, ok := impl.PumpFactor(inside, outside, quality)
		want := float64(quality) * (float64(inside) + 273.15) / (float64(inside) - float64(outside))
		wantBool(t, "PumpFactor", ok, true)
		wantNear(t, "PumpFactor", factor, want, 1e-6*want)
		heat, most := r.number(0, 40), r.number(0, 10)
		power, brought, ok := impl.PumpPower(heat, inside, outside, quality, most)
		wantBool(t, "PumpPower", ok && power <= most, true)
		wantNear(t, "PumpPower", power, min(float64(most), float64(heat)/want), 1e-6*float64(most))
		wantText(t, "what a pump brings", digits(brought), digits(power*factor))
		if power < most {
			wantNear(t, "all the heat is brought", brought, float64(heat), 1e-6*float64(heat))
		}
	}
	wantText(t, "PumpPower with just enough", toldPower(impl.PumpPower(8, 0.85, -273.15, 1, 8)), toldPower(8, 8, true))
}

func TestP7PumpsAreChecked(t *testing.T) {
	least := float32(-273.15)
	for _, c := range []struct {
		inside, outside, quality float32
		want                     bool
	}{
		{20, 0, 0.5, true}, {20, 0, 1, true}, {20, 0, num(leastBits), true}, {20, -1e6, 1, true}, {math.Nextafter32(20, 30), 20, 1, true},
		{math.Nextafter32(least, 0), -300, 1, true}, {3e38, -3e38, 1, true},
		{20, 20, 1, false}, {0, num(minusZero), 1, false}, {num(minusZero), 0, 1, false}, {20, 21, 1, false},
		{least, -300, 1, false}, {-280, -300, 1, false}, {20, 0, 0, false}, {20, 0, num(minusZero), false}, {20, 0, -0.5, false},
		{20, 0, num(oneBits + 1), false}, {20, 0, num(plusInf), false}, {20, 0, num(nanBits), false},
		{num(plusInf), 0, 1, false}, {20, num(minusInf), 1, false}, {num(nanBits), 0, 1, false}, {20, num(nanBits), 1, false},
		{num(leastBits), 0, 1, false},
	} {
		_, ok := impl.PumpFactor(c.inside, c.outside, c.quality)
		wantBool(t, "PumpFactor of "+tell(c.inside, c.outside, c.quality), ok, c.want)
		_, _, ok = impl.PumpPower(1, c.inside, c.outside, c.quality, 2)
		wantBool(t, "PumpPower of "+tell(c.inside, c.outside, c.quality), ok, c.want)
	}
	for _, bits := range []uint32{0x80000001, bitsOf(-1), plusInf, minusInf, nanBits} {
		_, _, ok := impl.PumpPower(num(bits), 20, 0, 0.5, 1)
		wantBool(t, "PumpPower of the heat "+hex(bits), ok, false)
		_, _, ok = impl.PumpPower(1, 20, 0, 0.5, num(bits))
		wantBool(t, "PumpPower of at most "+hex(bits), ok, false)
	}
	// A factor of 0: no power is enough, and none at all is not a number.
	wantText(t, "PumpPower with the factor 0", toldPower(impl.PumpPower(1, 3e38, -3e38, 1, 2)), toldPower(2, 0, true))
	_, _, ok := impl.PumpPower(0, 3e38, -3e38, 1, 2)
	wantBool(t, "PumpPower of no heat with the factor 0", ok, false)
	wantText(t, "PumpPower with both zeros", toldPower(impl.PumpPower(0, 20, 0, 0.5, num(minusZero))), toldPower(0, 0, true))
}

func TestP7DegreeSums(t *testing.T) {
	wantText(t, "DegreeSum", toldNumber(impl.DegreeSum([]float32{10, 20, 15, 18}, 18)), toldNumber(11, true))
	wantText(t, "DegreeSum of warm days", toldNumber(impl.DegreeSum([]float32{18, 19, 30}, 18)), toldNumber(0, true))
	for count := range 120 {
		sum, ok := impl.DegreeSum(slices.Repeat([]float32{17.5}, count), 18)
		good := count >= 1 && count <= 96
		wantBool(t, "DegreeSum of some numbers", ok, good)
		wantBool(t, "DegreeSum", !ok || sum == float32(count)/2, true)
	}
	for _, bits := range []uint32{plusInf, minusInf, nanBits} {
		for place := range 3 {
			list := []float32{1, 2, 3}
			list[place] = num(bits)
			_, ok := impl.DegreeSum(list, 2)
			wantBool(t, "DegreeSum of "+hex(bits), ok, false)
		}
		_, ok := impl.DegreeSum([]float32{1, 2, 3}, num(bits))
		wantBool(t, "DegreeSum with the base "+hex(bits), ok, false)
	}
	_, ok := impl.DegreeSum([]float32{-3e38}, 3e38)
	wantBool(t, "DegreeSum of too much", ok, false)
}
