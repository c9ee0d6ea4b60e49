package tests

import (
	"math"
	"slices"
	"strings"
	"testing"

	"loop.example/g01309/impl"
)

// TestChapter3Examples asserts the examples at the end of chapter 3.
func TestChapter3Examples(t *testing.T) {
	s := plainStuff()
	wantText(t, "the warmth of -2", toldNumber(impl.WarmOf(s, -2)), toldNumber(-1, true))
	wantText(t, "the warmth of 4", toldNumber(impl.WarmOf(s, 4)), toldNumber(0, true))
	wantText(t, "the part of 4", toldNumber(impl.PartOf(s, 4)), toldNumber(0.5, true))
	wantText(t, "the warmth of 12", toldNumber(impl.WarmOf(s, 12)), toldNumber(1, true))
	wantText(t, "the melted part of a cup", tell(impl.MeltedInCup(impl.Cup{Mass: 10, Heat: 400})), tell(int64(5), true))
}

func TestChapter3Limits(t *testing.T) {
	if impl.MaxBar != 48 || impl.MaxDays != 128 {
		t.Error("a constant is not as the chapter has it")
	}
}

func TestP4StuffsByTheirBits(t *testing.T) {
	for _, c := range stuffCases {
		s, heat := stuffOf(numbers(c.stuff)), numbers(c.heat)[0]
		what := " of " + c.stuff + " at " + c.heat
		wantText(t, "WarmOf"+what, toldNumber(impl.WarmOf(s, heat)), c.warm)
		wantText(t, "PartOf"+what, toldNumber(impl.PartOf(s, heat)), c.part)
		wantText(t, "EaseOf"+what, toldNumber(impl.EaseOf(s, heat)), c.ease)
	}
	for _, c := range heatCases {
		s, list := stuffOf(numbers(c[0])), numbers(c[1])
		wantText(t, "HeatFor of "+c[0]+" at "+c[1], toldNumber(impl.HeatFor(s, list[0], list[1])), c[2])
	}
}

// TestP4StuffsAtTheirMeltingPoint checks what begins and what ends with melting.
func TestP4StuffsAtTheirMeltingPoint(t *testing.T) {
	for _, s := range []impl.Stuff{plainStuff(), {Solid: 2, Fluid: 4, EaseSolid: 1, EaseFluid: 3, Point: -7, Latent: 8}} {
		least, below, above := num(0x80000001), math.Nextafter32(8, 0), math.Nextafter32(8, 9)
		for _, c := range []struct{ heat, part, ease float32 }{
			{0, 0, 1}, {num(minusZero), num(minusZero), 1}, {num(leastBits), 0, 1}, {2, 0.25, 1.5}, {4, 0.5, 2},
			{below, below / 8, 3}, {8, 1, 3}, {above, 1, 3}, {least, 0, 1}, {-1, 0, 1}, {100, 1, 3},
		} {
			wantText(t, "PartOf "+digits(c.heat), toldNumber(impl.PartOf(s, c.heat)), toldNumber(c.part, true))
			wantText(t, "EaseOf "+digits(c.heat), toldNumber(impl.EaseOf(s, c.heat)), toldNumber(c.ease, true))
			if c.heat >= 0 && c.heat <= 8 {
				wantText(t, "WarmOf "+digits(c.heat), toldNumber(impl.WarmOf(s, c.heat)), toldNumber(s.Point, true))
			}
		}
		for _, part := range []float32{0, 0.125, 0.5, 1} {
			wantText(t, "HeatFor the Point", toldNumber(impl.HeatFor(s, s.Point, part)), toldNumber(8*part, true))
			wantText(t, "HeatFor 1 below", toldNumber(impl.HeatFor(s, s.Point-1, part)), toldNumber(-2, true))
			wantText(t, "HeatFor 1 above", toldNumber(impl.HeatFor(s, s.Point+1, part)), toldNumber(12, true))
		}
	}
}

func TestP4HeatLeadsBack(t *testing.T) {
	r := somewhere(11)
	for range 300 {
		s := r.stuff()
		warm, part := s.Point+r.number(-15, 15), r.number(0, 1)
		heat, ok := impl.HeatFor(s, warm, part)
		back, told := impl.WarmOf(s, heat)
		wantBool(t, "HeatFor and WarmOf", ok && told, true)
		wantNear(t, "WarmOf HeatFor", back, float64(warm), 1e-5)
		heat, _ = impl.HeatFor(s, s.Point, part)
		back, _ = impl.PartOf(s, heat)
		wantNear(t, "PartOf HeatFor", back, float64(part), 1e-6)
		warm, _ = impl.WarmOf(s, heat)
		wantText(t, "WarmOf stuff that melts", digits(warm), digits(s.Point))
	}
}

func TestP4PartsAreAskedEverywhere(t *testing.T) {
	for _, part := range []float32{-1, num(0x80000001), num(0x3f800001), 2, num(plusInf), num(minusInf), num(nanBits)} {
		for _, warm := range []float32{-3, 0, 3} {
			wantText(t, "HeatFor", toldNumber(impl.HeatFor(plainStuff(), warm, part)), "fail")
			_, ok := impl.EvenBar(plainStuff(), 2, 1, warm, part)
			wantBool(t, "EvenBar", ok, false)
		}
	}
}

func TestP4ValidStuffs(t *testing.T) {
	wantBool(t, "ValidStuff", impl.ValidStuff(plainStuff()), true)
	for _, bits := range []uint32{leastBits, greatest} {
		x := num(bits)
		wantBool(t, "ValidStuff of "+hex(bits), impl.ValidStuff(stuffOf([]float32{x, x, x, x, -x, x})), true)
	}
	for _, s := range invalidStuffs() {
		what := " of " + tell(s)
		wantBool(t, "ValidStuff"+what, impl.ValidStuff(s), false)
		wantText(t, "WarmOf"+what, toldNumber(impl.WarmOf(s, 1)), "fail")
		wantText(t, "PartOf"+what, toldNumber(impl.PartOf(s, 1)), "fail")
		wantText(t, "EaseOf"+what, toldNumber(impl.EaseOf(s, 1)), "fail")
		wantText(t, "HeatFor"+what, toldNumber(impl.HeatFor(s, 1, 1)), "fail")
		wantText(t, "FrontAt"+what, toldNumber(impl.FrontAt(s, 1, 1)), "fail")
		wantText(t, "GrowIce"+what, toldNumber(impl.GrowIce(s, 1, 1, 1, 1)), "fail")
		wantText(t, "RunIce"+what, told(impl.RunIce(s, 1, 1, nil, 1)), "fail")
	}
	for _, bits := range []uint32{plusInf, minusInf, nanBits} {
		wantText(t, "WarmOf "+hex(bits), toldNumber(impl.WarmOf(plainStuff(), num(bits))), "fail")
		wantText(t, "PartOf "+hex(bits), toldNumber(impl.PartOf(plainStuff(), num(bits))), "fail")
		wantText(t, "EaseOf "+hex(bits), toldNumber(impl.EaseOf(plainStuff(), num(bits))), "fail")
	}
}

func TestP4SameStuffsAndBars(t *testing.T) {
	for _, x := range strangeNumbers() {
		for _, y := range strangeNumbers() {
			want := bitsOf(x) == bitsOf(y)
			for field := range 8 {
				one, two := []float32{1, 2, 3, 4, 5, 6, 7, 8}, []float32{1, 2, 3, 4, 5, 6, 7, 8}
				one[field], two[field] = x, y
				if field < 6 {
					wantBool(t, "SameStuff", impl.SameStuff(stuffOf(one), stuffOf(two)), want)
				}
				a := impl.Bar{Stuff: stuffOf(one), Step: one[6], Heats: one[7:]}
				b := impl.Bar{Stuff: stuffOf(two), Step: two[6], Heats: two[7:]}
				wantBool(t, "SameBar", impl.SameBar(a, b), want)
			}
		}
	}
	wantBool(t, "SameBar of other lengths", impl.SameBar(barWith(1, 2), barWith(1)) || impl.SameBar(barWith(1), barWith(1, 2)), false)
	wantBool(t, "SameBar of other ends", impl.SameBar(barWith(1, 2, 3), barWith(1, 2, 4)), false)
	wantBool(t, "SameBar of nil and an empty list", impl.SameBar(barWith(), barWith([]float32{}...)), true)
	wantBool(t, "SameBar of nothing", impl.SameBar(impl.Bar{}, impl.Bar{}), true)
	wantBool(t, "SameBar of long bars", impl.SameBar(barWith(make([]float32, 60)...), barWith(make([]float32, 60)...)), true)
}

func TestP4ValidBars(t *testing.T) {
	for _, count := range []int{1, 2, 47, 48} {
		wantBool(t, "ValidBar", impl.ValidBar(barWith(make([]float32, count)...)), true)
	}
	b := barWith(num(greatest), num(0xff7fffff), num(minusZero))
	wantBool(t, "ValidBar of the greatest heats", impl.ValidBar(b), true)
	for _, bits := range []uint32{leastBits, greatest} {
		b.Step = num(bits)
		wantBool(t, "ValidBar of the Step "+hex(bits), impl.ValidBar(b), true)
	}
	for _, b := range invalidBars() {
		wantBool(t, "ValidBar of "+tell(b), impl.ValidBar(b), false)
	}
}

func TestP4EvenBars(t *testing.T) {
	for _, count := range []int64{1, 2, 47, 48} {
		for _, c := range []struct{ warm, part, heat float32 }{{-1, 0.5, -2}, {0, 0, 0}, {0, 0.5, 4}, {0, 1, 8}, {1, 0, 12}} {
			b, ok := impl.EvenBar(plainStuff(), count, 2, c.warm, c.part)
			want := impl.Bar{Stuff: plainStuff(), Step: 2, Heats: slices.Repeat([]float32{c.heat}, int(count))}
			wantText(t, "EvenBar of "+impl.Decimal(count), tell(b, ok), tell(want, true))
		}
	}
	for _, count := range []int64{0, -1, 49, 1 << 32, math.MinInt64, math.MaxInt64} {
		_, ok := impl.EvenBar(plainStuff(), count, 1, 1, 0)
		wantBool(t, "EvenBar of "+impl.Decimal(count), ok, false)
	}
	for _, bits := range []uint32{plusZero, minusZero, 0x80000001, bitsOf(-1), plusInf, minusInf, nanBits} {
		_, ok := impl.EvenBar(plainStuff(), 2, num(bits), 1, 0)
		wantBool(t, "EvenBar with the Step "+hex(bits), ok, false)
		if x := num(bits); x-x != 0 {
			_, ok = impl.EvenBar(plainStuff(), 2, 1, x, 0)
			wantBool(t, "EvenBar as warm as "+hex(bits), ok, false)
		}
	}
	for _, s := range invalidStuffs() {
		_, ok := impl.EvenBar(s, 2, 1, 0, 0.5)
		wantBool(t, "EvenBar of "+tell(s), ok, false)
	}
	// Stuff that is rounded to a heat whose warmth is not finite.
	for _, text := range []string{
		"3e8741c7,3e8741c7,3f800000,3f800000,7ed08d23,3f800000;7f7fffff;7e20538a",
		"3ec42e3d,3ec42e3d,3f800000,3f800000,fead5f13,3f800000;ff7fffff;fe81c02f",
	} {
		lists := strings.Split(text, ";")
		s, warm := stuffOf(numbers(lists[0])), numbers(lists[1])[0]
		wantText(t, "HeatFor", toldNumber(impl.HeatFor(s, warm, 0)), lists[2])
		_, ok := impl.EvenBar(s, 2, 1, warm, 0)
		wantBool(t, "EvenBar of "+text, ok, false)
	}
}

func TestP4BarsByTheirBits(t *testing.T) {
	for _, c := range barCases {
		b, ends, tick := barOf(c.bar), numbers(c.ends), numbers(c.tick)[0]
		hold, holdRight := strings.Contains(c.holds, "left"), strings.Contains(c.holds, "right")
		check := func(name, got, want string) {
			t.Helper()
			wantText(t, c.what+", "+name, got, want)
		}
		check("FlowsInBar", told(impl.FlowsInBar(b)), c.flows)
		check("MostTick", toldNumber(impl.MostTick(b)), c.most)
		check("StepBar", toldHeats(impl.StepBar(b, ends[0], ends[1], hold, holdRight, tick)), c.step)
		last, melteds, ok := impl.RunBar(b, ends[0], ends[1], hold, holdRight, tick, 3)
		check("RunBar", toldHeats(last, ok), c.last)
		check("RunBar, what was molten", told(melteds, ok), c.melteds)
		check("HeatInBar", toldNumber(impl.HeatInBar(b)), c.heat)
		check("MeltedOfBar", toldNumber(impl.MeltedOfBar(b)), c.melted)
		check("FrontsOf", told(impl.FrontsOf(b)), c.fronts)
		if ok && (!impl.SameStuff(last.Stuff, b.Stuff) || last.Step != b.Step) {
			t.Errorf("%s: RunBar has changed the stuff or the step", c.what)
		}
	}
}

func TestP4BarsOfOneCell(t *testing.T) {
	b := barWith(4)
	wantText(t, "FlowsInBar", told(impl.FlowsInBar(b)), "")
	wantText(t, "FrontsOf", told(impl.FrontsOf(b)), "")
	wantText(t, "MeltedOfBar", toldNumber(impl.MeltedOfBar(b)), toldNumber(0.5, true))
	wantText(t, "StepBar, shut", toldHeats(impl.StepBar(b, 9, 9, false, false, 0.125)), toldNumber(4, true))
	// It lets 2 pass for each degree on both sides.
	wantText(t, "StepBar, held on the left side", toldHeats(impl.StepBar(b, 4, 9, true, false, 0.125)), toldNumber(5, true))
	wantText(t, "StepBar, held on the right side", toldHeats(impl.StepBar(b, 4, -4, false, true, 0.125)), toldNumber(3, true))
	wantText(t, "StepBar, held on both sides", toldHeats(impl.StepBar(b, 4, 8, true, true, 0.125)), toldNumber(7, true))
}

// heatsSize returns the sum of all heats without their signs, times the step.
func heatsSize(b impl.Bar) float64 {
	size := 0.0
	for _, heat := range b.Heats {
		size += math.Abs(float64(heat))
	}
	return size * float64(b.Step)
}

func TestP4ShutBarsKeepTheirHeat(t *testing.T) {
	r := somewhere(12)
	for count := 1; count <= 48; count++ {
		b := r.bar(count)
		tick, ok := impl.MostTick(b)
		wantBool(t, "MostTick", ok, true)
		before, _ := impl.HeatInBar(b)
		for _, steps := range []int64{1, 20, 128} {
			last, melteds, ok := impl.RunBar(b, 50, -50, false, false, tick, steps)
			wantBool(t, "RunBar", ok && int64(len(melteds)) == steps, true)
			after, _ := impl.HeatInBar(last)
			wantNear(t, "the heat of "+impl.Decimal(int64(count))+" cells", after, float64(before), 1e-4*heatsSize(b))
		}
	}
}

func TestP4HeatThatFlowsIntoBarsStaysIn(t *testing.T) {
	r := somewhere(13)
	for count := 1; count <= 48; count++ {
		b := r.bar(count)
		left, right := r.number(-30, 30), r.number(-30, 30)
		tick, _ := impl.MostTick(b)
		before, _ := impl.HeatInBar(b)
		for _, holds := range [][2]bool{{true, false}, {false, true}, {true, true}} {
			next, ok := impl.StepBar(b, left, right, holds[0], holds[1], tick)
			wantBool(t, "StepBar", ok, true)
			in := 0.0
			for i, end := range []struct {
				heat, warm float32
			}{{b.Heats[0], left}, {b.Heats[count-1], right}} {
				ease, _ := impl.EaseOf(b.Stuff, end.heat)
				warm, _ := impl.WarmOf(b.Stuff, end.heat)
				if holds[i] {
					in += float64(ease) * float64(end.warm-warm) / float64(b.Step)
				}
			}
			after, _ := impl.HeatInBar(next)
			wantNear(t, "the heat behind a step", after, float64(before)+float64(tick)*in, 1e-4*(heatsSize(b)+heatsSize(next)))
		}
	}
}

// TestP4EvenBarsStay checks that nothing flows where all is equally warm, molten or not.
func TestP4EvenBarsStay(t *testing.T) {
	r := somewhere(14)
	for range 100 {
		s := r.stuff()
		b := impl.Bar{Stuff: s, Step: 1, Heats: []float32{0, s.Latent, s.Latent / 2, r.number(0, 1) * s.Latent}}
		tick, _ := impl.MostTick(b)
		last, _, ok := impl.RunBar(b, s.Point, s.Point, true, true, tick, 10)
		wantText(t, "RunBar of stuff that melts", tell(last, ok), tell(b, true))
		even, _ := impl.EvenBar(s, 5, 1, s.Point+r.number(-9, 9), 0)
		warm, _ := impl.WarmOf(s, even.Heats[0])
		last, _, ok = impl.RunBar(even, warm, warm, true, true, tick, 10)
		wantText(t, "RunBar of an even bar", tell(last, ok), tell(even, true))
	}
}

// TestP4StepsStayBetween checks that a tick of MostTick makes no cell warmer or colder than all were.
func TestP4StepsStayBetween(t *testing.T) {
	r := somewhere(15)
	for range 60 {
		b := r.bar(12)
		left, right := r.number(-30, 30), r.number(-30, 30)
		low, high := min(left, right), max(left, right)
		for _, heat := range b.Heats {
			warm, _ := impl.WarmOf(b.Stuff, heat)
			low, high = min(low, warm), max(high, warm)
		}
		tick, _ := impl.MostTick(b)
		last, _, _ := impl.RunBar(b, left, right, true, true, tick, 100)
		for _, heat := range last.Heats {
			warm, _ := impl.WarmOf(b.Stuff, heat)
			wantBool(t, "the warmth stays between", warm > low-1e-3 && warm < high+1e-3, true)
		}
	}
}

func TestP4BarTicksAreChecked(t *testing.T) {
	r := somewhere(16)
	for range 50 {
		b := r.bar(3)
		most, _ := impl.MostTick(b)
		for _, c := range []struct {
			tick float32
			want bool
		}{
			{most, true}, {math.Nextafter32(most, 0), true}, {most / 2, true}, {num(leastBits), true},
			{math.Nextafter32(most, 1000), false}, {2 * most, false}, {0, false}, {num(minusZero), false},
			{num(0x80000001), false}, {-most, false}, {num(plusInf), false}, {num(minusInf), false}, {num(nanBits), false},
		} {
			for _, hold := range []bool{false, true} {
				_, ok := impl.StepBar(b, 1, 2, hold, !hold, c.tick)
				wantBool(t, "StepBar with "+digits(c.tick)+" of "+digits(most), ok, c.want)
				for _, steps := range []int64{0, 1} {
					_, _, ok = impl.RunBar(b, 1, 2, hold, !hold, c.tick, steps)
					wantBool(t, "RunBar with "+digits(c.tick)+" of "+digits(most), ok, c.want)
				}
			}
		}
	}
}

// TestP4EndsOfBarsAreFinite checks that the warmth at an end is asked for where the bar is not held, too.
func TestP4EndsOfBarsAreFinite(t *testing.T) {
	b := barWith(12, -2)
	for _, bits := range []uint32{plusInf, minusInf, nanBits} {
		for _, ends := range [][2]float32{{num(bits), 1}, {1, num(bits)}} {
			for _, hold := range []bool{false, true} {
				_, ok := impl.StepBar(b, ends[0], ends[1], hold, !hold, 0.125)
				wantBool(t, "StepBar", ok, false)
				for _, steps := range []int64{0, 1} {
					_, _, ok = impl.RunBar(b, ends[0], ends[1], hold, !hold, 0.125, steps)
					wantBool(t, "RunBar", ok, false)
				}
			}
		}
	}
	one, _ := impl.StepBar(b, 3, -4, false, false, 0.125)
	two, _ := impl.StepBar(b, 300, -400, false, false, 0.125)
	wantText(t, "StepBar, where it is not held", tell(two), tell(one))
}

func TestP4RunsOfBarsAreStepsOneAfterAnother(t *testing.T) {
	r := somewhere(17)
	for _, count := range []int{1, 2, 9} {
		b := r.bar(count)
		tick, _ := impl.MostTick(b)
		for _, hold := range []bool{false, true} {
			last := b
			var melteds []float32
			for steps := range int64(8) {
				got, list, ok := impl.RunBar(b, 20, -15, hold, !hold, tick, steps)
				wantText(t, "RunBar", tell(got, list, ok), tell(last, melteds, true))
				last, _ = impl.StepBar(last, 20, -15, hold, !hold, tick)
				melted, _ := impl.MeltedOfBar(last)
				melteds = append(melteds, melted)
			}
		}
	}
	b := barWith(12, -2)
	_, melteds, ok := impl.RunBar(b, 0, 0, true, true, 0.125, 128)
	wantBool(t, "RunBar with 128 steps", ok && len(melteds) == 128, true)
	for _, steps := range []int64{129, -1, 1 << 32, math.MinInt64, math.MaxInt64} {
		_, _, ok = impl.RunBar(b, 0, 0, true, true, 0.125, steps)
		wantBool(t, "RunBar with "+impl.Decimal(steps)+" steps", ok, false)
	}
	// No step is made, so it does not matter that what flows is not finite.
	wild := impl.Bar{Stuff: evenStuff(), Step: 1, Heats: []float32{num(greatest), num(0xff7fffff)}}
	last, _, ok := impl.RunBar(wild, 0, 0, false, false, 0.25, 0)
	wantText(t, "RunBar with no steps", tell(last, ok), tell(wild, true))
	_, _, ok = impl.RunBar(wild, 0, 0, false, false, 0.25, 1)
	wantBool(t, "RunBar with one step", ok, false)
}

func TestP4FrontsAreWhereHalfIsMolten(t *testing.T) {
	below, above := math.Nextafter32(4, 0), math.Nextafter32(4, 8)
	for _, c := range []struct {
		heats, want []float32
	}{
		{[]float32{12, -2}, []float32{1}},
		{[]float32{-2, 12}, []float32{1}},
		{[]float32{0, 8}, []float32{1}},
		{[]float32{4, 8}, []float32{0.5}},
		{[]float32{8, 4}, []float32{1.5}},
		{[]float32{4, above}, []float32{0.5}},
		{[]float32{4, 4, 4}, nil},
		{[]float32{4, below, -3, 0}, nil},
		{[]float32{above, 8, 30}, nil},
		{[]float32{2, 6}, []float32{1}},
		{[]float32{3, 7}, []float32{0.75}},
		{[]float32{-1, 9, -1, 9}, []float32{1, 2, 3}},
		{[]float32{9, 9, -1, -1, 9}, []float32{2, 4}},
	} {
		wantText(t, "FrontsOf "+tell(c.heats), told(impl.FrontsOf(barWith(c.heats...))), told(c.want, true))
		b := barWith(c.heats...)
		b.Step = 4
		for i := range c.want {
			c.want[i] *= 4
		}
		wantText(t, "FrontsOf with the Step 4", told(impl.FrontsOf(b)), told(c.want, true))
	}
	long := barWith(slices.Repeat([]float32{12, -2}, 24)...)
	fronts, ok := impl.FrontsOf(long)
	wantBool(t, "FrontsOf 48 cells", ok && len(fronts) == 47 && fronts[46] == 47, true)
}

func TestP4HeatsAndPartsAreAdded(t *testing.T) {
	b := barWith(12, -2, 4, 8, 0, 2)
	b.Step = 0.5
	wantText(t, "HeatInBar", toldNumber(impl.HeatInBar(b)), toldNumber(12, true))
	wantText(t, "MeltedOfBar", toldNumber(impl.MeltedOfBar(b)), toldNumber(1.375, true))
	zeros := barWith(num(minusZero), num(minusZero))
	wantText(t, "HeatInBar of zeros", toldNumber(impl.HeatInBar(zeros)), toldNumber(0, true))
	wantText(t, "MeltedOfBar of zeros", toldNumber(impl.MeltedOfBar(zeros)), toldNumber(0, true))
	// The sum goes from left to right.
	wantText(t, "HeatInBar, in order", toldNumber(impl.HeatInBar(barWith(1e8, 3, -1e8))), toldNumber(0, true))
	wantText(t, "HeatInBar, in the other order", toldNumber(impl.HeatInBar(barWith(1e8, -1e8, 3))), toldNumber(3, true))
}
