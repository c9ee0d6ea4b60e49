package tests

import (
	"math"
	"testing"

	"loop.example/g01309/impl"
)

// outcomesOfBars calls all functions of chapter 3 that take bars and stuffs and may fail.
func outcomesOfBars(b impl.Bar, airs []float32, x, y, tick float32, n int64) []outcome {
	s := b.Stuff
	return []outcome{
		{"WarmOf", all(impl.WarmOf(s, x))},
		{"PartOf", all(impl.PartOf(s, x))},
		{"EaseOf", all(impl.EaseOf(s, x))},
		{"HeatFor", all(impl.HeatFor(s, x, y))},
		{"EvenBar", all(impl.EvenBar(s, n, tick, x, y))},
		{"FlowsInBar", all(impl.FlowsInBar(b))},
		{"MostTick", all(impl.MostTick(b))},
		{"StepBar, shut", all(impl.StepBar(b, x, y, false, false, tick))},
		{"StepBar, held", all(impl.StepBar(b, x, y, true, true, tick))},
		{"RunBar, held on the left side", all(impl.RunBar(b, x, y, true, false, tick, n))},
		{"RunBar, held on the right side", all(impl.RunBar(b, x, y, false, true, tick, n))},
		{"HeatInBar", all(impl.HeatInBar(b))},
		{"MeltedOfBar", all(impl.MeltedOfBar(b))},
		{"FrontsOf", all(impl.FrontsOf(b))},
		{"FrontAt", all(impl.FrontAt(s, x, y))},
		{"GrowIce", all(impl.GrowIce(s, x, y, x, tick))},
		{"RunIce", all(impl.RunIce(s, x, y, airs, tick))},
	}
}

// outcomesOfNumbers calls all functions of chapter 3 that take numbers or cups and may fail.
func outcomesOfNumbers(x, y float32, a, b impl.Cup, n int64) []outcome {
	return []outcome{
		{"ErrorOf", all(impl.ErrorOf(x))},
		{"StefanRoot", all(impl.StefanRoot(x))},
		{"FreezePoint", all(impl.FreezePoint(x))},
		{"BrineShare", all(impl.BrineShare(x, y))},
		{"MixCups", all(impl.MixCups(a, b))},
		{"HeatCup", all(impl.HeatCup(a, n))},
		{"MeltedInCup", all(impl.MeltedInCup(a))},
		{"WarmOfCup", all(impl.WarmOfCup(a))},
	}
}

func sameBits(x, y float32) bool { return bitsOf(x) == bitsOf(y) }

// checkBars calls all functions of bars twice, and checks what they return and that they leave the lists alone.
func checkBars(t *testing.T, b impl.Bar, airs []float32, x, y, tick float32, n int64) {
	t.Helper()
	heats, sameHeats := withRoom(b.Heats, sameBits)
	list, sameAirs := withRoom(airs, sameBits)
	one := impl.Bar{Stuff: b.Stuff, Step: b.Step, Heats: heats}
	first := outcomesOfBars(one, list, x, y, tick, n)
	for i, second := range outcomesOfBars(one, list, x, y, tick, n) {
		checkOutcome(t, second)
		if tell(first[i].values...) != tell(second.values...) {
			t.Errorf("%s: first %v, then %v", second.name, first[i].values, second.values)
		}
	}
	if impl.ValidBar(one) != impl.ValidBar(b) || impl.ValidStuff(b.Stuff) != impl.ValidStuff(b.Stuff) || !impl.SameBar(one, b) || !impl.SameStuff(b.Stuff, b.Stuff) {
		t.Errorf("SameBar, SameStuff, ValidBar or ValidStuff of %v has different results", b)
	}
	wantBool(t, "the lists are unchanged", sameHeats() && sameAirs(), true)
}

func TestP1BarsOfAllNumbers(t *testing.T) {
	s := plainStuff()
	for _, x := range strangeNumbers() {
		for k, y := range strangeNumbers() {
			odd := stuffOf([]float32{x, y, 1, y, x, 2})
			other := stuffOf([]float32{1, x, y, x, 3, y})
			checkBars(t, impl.Bar{Stuff: odd, Step: 1, Heats: []float32{x, y}}, []float32{x, y}, x, y, 0.25, 2)
			checkBars(t, impl.Bar{Stuff: other, Step: x, Heats: []float32{y, x, 1}}, []float32{y}, y, x, x, 1)
			checkBars(t, impl.Bar{Stuff: s, Step: 1, Heats: []float32{x, y, 4}}, []float32{x, 1}, y, x, 0.125, 3)
			checkBars(t, barWith(12, 0, -2), []float32{y, x}, x, y, 0.125, int64(k%3))
			checkBars(t, barWith(12, 0, -2), []float32{1, -1}, 1, 0.5, x, 2)
		}
	}
}

func TestP1BarsOfAllLengths(t *testing.T) {
	for _, count := range []int{0, 1, 2, 47, 48, 49, 127, 128, 129, 5000} {
		checkBars(t, barWith(make([]float32, count)...), make([]float32, count), 1, 0.5, 0.125, 3)
		checkBars(t, barWith(4, 8), make([]float32, count), 1, 0.5, 0.125, int64(count))
	}
	for _, b := range invalidBars() {
		checkBars(t, b, nil, 1, 0.5, 0.125, 1)
	}
}

func TestP1BarsWithAllIntegers(t *testing.T) {
	for _, n := range []int64{math.MinInt64, math.MinInt64 + 1, -1, 0, 1, 2, 47, 48, 49, 127, 128, 129, 1 << 31, 1 << 32, math.MaxInt64} {
		checkBars(t, barWith(1, 2, 9), []float32{3}, 1, 0.5, 0.125, n)
	}
}

// TestP1InvalidBarsFail checks that no function takes an invalid bar.
func TestP1InvalidBarsFail(t *testing.T) {
	ofStuffs := map[string]bool{"WarmOf": true, "PartOf": true, "EaseOf": true, "HeatFor": true, "EvenBar": true,
		"FrontAt": true, "GrowIce": true, "RunIce": true}
	for _, o := range outcomesOfBars(barWith(12, -2), nil, 1, 0.5, 0.125, 2) {
		wantBool(t, o.name+" of a valid bar", o.ok(), true)
	}
	for _, b := range invalidBars() {
		for _, n := range []int64{0, 1} {
			for _, o := range outcomesOfBars(b, nil, 1, 0.5, 0.125, n) {
				wantBool(t, o.name+" of "+tell(b), o.ok() && !ofStuffs[o.name], false)
			}
		}
	}
}

func TestP1NumbersAndCupsOfAllKinds(t *testing.T) {
	wholes := []int64{math.MinInt64, math.MinInt64 + 1, -1 << 32, -1000000001, -1000000000, -51, -50, -1, 0, 1, 2, 80, 180, 181,
		999999, 1000000, 1000001, 180000000, 1000000000, 1000000001, 1 << 32, 1 << 57, 1 << 62, math.MaxInt64}
	check := func(x, y float32, a, b impl.Cup, n int64) {
		first := outcomesOfNumbers(x, y, a, b, n)
		for i, second := range outcomesOfNumbers(x, y, a, b, n) {
			checkOutcome(t, second)
			if tell(first[i].values...) != tell(second.values...) {
				t.Errorf("%s: first %v, then %v", second.name, first[i].values, second.values)
			}
		}
	}
	for _, x := range strangeNumbers() {
		for _, y := range strangeNumbers() {
			check(x, y, impl.Cup{Mass: 1}, impl.Cup{Mass: 1}, 1)
		}
	}
	for _, mass := range wholes {
		for _, heat := range wholes {
			for _, n := range wholes {
				check(1, 1, impl.Cup{Mass: mass, Heat: heat}, impl.Cup{Mass: 1, Heat: n}, n)
				check(1, 1, impl.Cup{Mass: 10, Heat: 400}, impl.Cup{Mass: mass, Heat: heat}, n)
			}
		}
	}
}

func TestP1EmptyListsOfBarsAreNil(t *testing.T) {
	none := []float32{}
	for i, o := range outcomesOfBars(impl.Bar{Stuff: plainStuff(), Step: 1, Heats: none}, none, 1, 0.5, 0.125, 1) {
		nothing := outcomesOfBars(impl.Bar{Stuff: plainStuff(), Step: 1}, nil, 1, 0.5, 0.125, 1)[i]
		if tell(o.values...) != tell(nothing.values...) {
			t.Errorf("%s: of empty lists %v, of nil %v", o.name, o.values, nothing.values)
		}
	}
}

func TestP1ResultsOfBarsAreNew(t *testing.T) {
	for _, n := range []int64{0, 1, 3} {
		heats, sameHeats := withRoom([]float32{12, 4, 0, -2}, sameBits)
		airs, sameAirs := withRoom([]float32{-2, 1, -4}, sameBits)
		b := impl.Bar{Stuff: plainStuff(), Step: 1, Heats: heats}
		calls := func() []outcome { return outcomesOfBars(b, airs, 1, 0.5, 0.125, n) }
		for i, o := range calls() {
			wantNewLists(t, o.name, func() []any { return calls()[i].values })
			wantBool(t, o.name+" returns new memory", sameHeats() && sameAirs(), true)
		}
	}
}
