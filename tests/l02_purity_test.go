package tests

import (
	"math"
	"reflect"
	"slices"
	"testing"

	"loop.example/g01309/impl"
)

// outcome is what a function has returned, with a bool behind the rest.
type outcome struct {
	name   string
	values []any
}

func (o outcome) ok() bool { return o.values[len(o.values)-1].(bool) }

// outcomesOfRods calls all functions of chapter 2 that may fail.
func outcomesOfRods(r, other impl.Rod, left, right impl.End, x, y float32, n int64) []outcome {
	return []outcome{
		{"PlainRod", all(impl.PlainRod(n, x, y, x, y))},
		{"JoinRods", all(impl.JoinRods(r, other))},
		{"BackRod", all(impl.BackRod(r))},
		{"SetWarms", all(impl.SetWarms(r, other.Warms))},
		{"LongOfRod", all(impl.LongOfRod(r))},
		{"HeatOfRod", all(impl.HeatOfRod(r))},
		{"MeanOfRod", all(impl.MeanOfRod(r))},
		{"HinderOf", all(impl.HinderOf(r))},
		{"PassBetween", all(impl.PassBetween(r, n))},
		{"PassAtEnd, left", all(impl.PassAtEnd(r, false, left))},
		{"PassAtEnd, right", all(impl.PassAtEnd(r, true, right))},
		{"FlowsInRod", all(impl.FlowsInRod(r, left, right))},
		{"SafeTick", all(impl.SafeTick(r, left, right))},
		{"StepRod", all(impl.StepRod(r, left, right, x))},
		{"RowsRod", all(impl.RowsRod(r, left, right, x))},
		{"RunRod with steps", all(impl.RunRod(r, left, right, x, n, false))},
		{"RunRod with rows", all(impl.RunRod(r, left, right, x, n, true))},
		{"SteadyRod", all(impl.SteadyRod(r, left, right))},
		{"WarmAt", all(impl.WarmAt(r, y))},
		{"PlaceOf", all(impl.PlaceOf(r, y))},
		{"FinShare", all(impl.FinShare(x, y, x, y))},
		{"WaveDepth", all(impl.WaveDepth(x, y, x))},
		{"WaveBelow", all(impl.WaveBelow(x, y))},
		{"AnswerOfRod", all(impl.AnswerOfRod(r, x))},
	}
}

// checkOutcome checks what is so for each function of the chapters 2 to 8: what
// fails returns nothing else, and what does not returns finite numbers, and
// valid rods, ends, bars, cups, plates, faces, houses, heaters, guesses, tracks
// and desks.
func checkOutcome(t *testing.T, o outcome) {
	t.Helper()
	for _, value := range o.values[:len(o.values)-1] {
		good := true
		switch x := value.(type) {
		case float32:
			good = impl.IsFinite(x)
		case complex64:
			good = impl.IsFiniteComplex(x)
		case []float32:
			good = !slices.ContainsFunc(x, func(y float32) bool { return !impl.IsFinite(y) })
		case []complex64:
			good = !slices.ContainsFunc(x, func(y complex64) bool { return !impl.IsFiniteComplex(y) })
		case impl.Rod:
			good = impl.ValidRod(x)
		case impl.Bar:
			good = impl.ValidBar(x)
		case impl.Cup:
			good = impl.ValidCup(x)
		case impl.Plate:
			good = impl.ValidPlate(x)
		case impl.House:
			good = impl.ValidHouse(x)
		case impl.Heater:
			good = impl.ValidHeater(x)
		case []impl.Heater:
			good = !slices.ContainsFunc(x, func(y impl.Heater) bool { return !impl.ValidHeater(y) })
		case impl.Guess:
			good = impl.IsFinite(x.Mean) && impl.IsFinite(x.Spread) && x.Spread > 0
		case impl.Track:
			good = impl.ValidTrack(x)
		case []impl.Track:
			good = len(x) <= 8 && !slices.ContainsFunc(x, func(y impl.Track) bool { return !impl.ValidTrack(y) })
		case impl.End:
			good = impl.ValidEnd(x)
		case []impl.Face:
			good = impl.AreFaces(x)
		case impl.Desk:
			good = impl.ValidDesk(x)
		}
		if !o.ok() {
			good = reflect.ValueOf(value).IsZero()
		}
		if !good {
			t.Errorf("%s: got %v", o.name, o.values)
		}
	}
}

// rodWithRoom returns a copy of a rod with unused capacity, and a function that
// reports whether the copy and its unused capacity are still as they were.
func rodWithRoom(r impl.Rod) (impl.Rod, func() bool) {
	same := func(x, y float32) bool { return bitsOf(x) == bitsOf(y) }
	wides, sameWides := withRoom(r.Wides, same)
	eases, sameEases := withRoom(r.Eases, same)
	holds, sameHolds := withRoom(r.Holds, same)
	warms, sameWarms := withRoom(r.Warms, same)
	return impl.Rod{Wides: wides, Eases: eases, Holds: holds, Warms: warms},
		func() bool { return sameWides() && sameEases() && sameHolds() && sameWarms() }
}

// checkRods calls all functions twice, and checks what they return and that they leave the rods alone.
func checkRods(t *testing.T, r, other impl.Rod, left, right impl.End, x, y float32, n int64) {
	t.Helper()
	one, sameOne := rodWithRoom(r)
	two, sameTwo := rodWithRoom(other)
	first := outcomesOfRods(one, two, left, right, x, y, n)
	for i, second := range outcomesOfRods(one, two, left, right, x, y, n) {
		checkOutcome(t, second)
		if tell(first[i].values...) != tell(second.values...) {
			t.Errorf("%s: first %v, then %v", second.name, first[i].values, second.values)
		}
	}
	same := impl.SameRod(one, two)
	if same != impl.SameRod(one, two) || same != impl.SameRod(two, one) || impl.ValidRod(one) != impl.ValidRod(one) {
		t.Errorf("SameRod or ValidRod of %v and %v has different results", one, two)
	}
	wantBool(t, "the rods are unchanged", sameOne() && sameTwo(), true)
}

func TestP1RodsOfAllNumbers(t *testing.T) {
	ends := []impl.End{held(3), shut(), inAir(-2, 2)}
	for i, x := range strangeNumbers() {
		for k, y := range strangeNumbers() {
			one := impl.Rod{Wides: []float32{x}, Eases: []float32{y}, Holds: []float32{x}, Warms: []float32{y}}
			two := impl.Rod{Wides: []float32{1, x}, Eases: []float32{y, 1}, Holds: []float32{x, 1}, Warms: []float32{2, y}}
			three := rodWith(y, x, 1)
			left, right := ends[i%3], ends[(i/3+k)%3]
			checkRods(t, one, two, left, right, x, y, 1)
			checkRods(t, two, one, right, left, y, x, 1)
			checkRods(t, three, two, left, impl.End{Kind: int64(k % 3), Warm: x, Ease: y}, x, y, 2)
			checkRods(t, rodWith(4, 1), three, impl.End{Kind: int64(k % 3), Warm: x, Ease: y}, right, 0.25, y, 0)
		}
	}
}

func TestP1RodsOfAllLengths(t *testing.T) {
	for _, r := range append(invalidRods(), rodWith(), rodWith(1), rodWith(make([]float32, 48)...), rodWith(make([]float32, 5000)...)) {
		for _, other := range []impl.Rod{rodWith(1, 2), r} {
			checkRods(t, r, other, held(1), inAir(2, 3), 0.5, 0.5, 3)
			checkRods(t, other, r, shut(), held(1), 0.5, 0.5, 3)
		}
	}
	// A list with more numbers than the others, or fewer, in each place.
	for part := range 4 {
		for _, count := range []int{0, 1, 2, 4, 49} {
			lists := [4][]float32{{1, 1, 1}, {1, 1, 1}, {1, 1, 1}, {1, 1, 1}}
			lists[part] = slices.Repeat([]float32{1}, count)
			r := impl.Rod{Wides: lists[0], Eases: lists[1], Holds: lists[2], Warms: lists[3]}
			checkRods(t, r, rodWith(1, 2), held(1), shut(), 0.5, 0.5, 1)
		}
	}
}

func TestP1RodsWithAllIntegers(t *testing.T) {
	for _, n := range []int64{math.MinInt64, math.MinInt64 + 1, -1, 0, 1, 2, 47, 48, 49, 127, 128, 129, 1 << 31, 1 << 32, math.MaxInt64} {
		checkRods(t, rodWith(1, 2, 4), rodWith(3), held(1), shut(), 0.25, 0.5, n)
		checkRods(t, rodWith(1, 2), rodWith(3), impl.End{Kind: n, Warm: 1, Ease: 1}, held(2), 0.25, 0.5, 1)
		checkRods(t, rodWith(1, 2), rodWith(3), held(2), impl.End{Kind: n, Warm: 1, Ease: 1}, 0.25, 0.5, 1)
	}
}

// TestP1InvalidRodsFail checks that no function takes an invalid rod or end.
func TestP1InvalidRodsFail(t *testing.T) {
	free := map[string]bool{"PlainRod": true, "FinShare": true, "WaveDepth": true, "WaveBelow": true}
	for _, o := range outcomesOfRods(rodWith(1, 2), rodWith(3, 4), held(1), held(2), 0.25, 1.5, 0) {
		wantBool(t, o.name+" of a valid rod", o.ok(), o.name != "PlainRod")
	}
	for _, r := range invalidRods() {
		for _, n := range []int64{0, 1} {
			for _, o := range outcomesOfRods(r, rodWith(3, 4, 5), held(1), held(2), 0.25, 1.5, n) {
				wantBool(t, o.name+" of "+tell(r), o.ok() && !free[o.name], false)
			}
		}
		_, ok := impl.JoinRods(rodWith(1), r)
		wantBool(t, "JoinRods with "+tell(r), ok, false)
	}
	asked := map[string]bool{"FlowsInRod": true, "SafeTick": true, "StepRod": true, "RowsRod": true,
		"RunRod with steps": true, "RunRod with rows": true, "SteadyRod": true}
	for kind := range int64(4) {
		for _, e := range append(invalidEnds(kind), impl.End{Kind: 3, Ease: 1}) {
			for _, o := range outcomesOfRods(rodWith(1, 2), rodWith(3, 4), e, shut(), 0.25, 1, 0) {
				wantBool(t, o.name+" with the left end "+tell(e), o.ok() && (asked[o.name] || o.name == "PassAtEnd, left"), false)
			}
			for _, o := range outcomesOfRods(rodWith(1, 2), rodWith(3, 4), shut(), e, 0.25, 1, 0) {
				wantBool(t, o.name+" with the right end "+tell(e), o.ok() && (asked[o.name] || o.name == "PassAtEnd, right"), false)
			}
		}
	}
}

func TestP1EmptyListsOfRodsAreNil(t *testing.T) {
	none := []float32{}
	empty := impl.Rod{Wides: none, Eases: none, Holds: none, Warms: none}
	for i, o := range outcomesOfRods(empty, empty, held(1), held(2), 0.25, 1, 1) {
		nothing := outcomesOfRods(impl.Rod{}, impl.Rod{}, held(1), held(2), 0.25, 1, 1)[i]
		if tell(o.values...) != tell(nothing.values...) {
			t.Errorf("%s: of empty lists %v, of nil %v", o.name, o.values, nothing.values)
		}
	}
	if impl.ValidRod(empty) != impl.ValidRod(impl.Rod{}) || !impl.SameRod(empty, impl.Rod{}) {
		t.Error("nil and an empty list make different rods")
	}
}

// listsOf returns all lists of numbers that values have.
func listsOf(values ...any) [][]float32 {
	var lists [][]float32
	for _, value := range values {
		switch x := value.(type) {
		case impl.Rod:
			lists = append(lists, x.Wides, x.Eases, x.Holds, x.Warms)
		case impl.Bar:
			lists = append(lists, x.Heats)
		case impl.Plate:
			lists = append(lists, x.Warms, x.Eases, x.Gains)
		case impl.House:
			lists = append(lists, x.Warms, x.Holds, x.Leaks)
		case impl.Desk:
			lists = append(lists, listsOf(x.Rod, x.Bar, x.House)...)
		case []float32:
			lists = append(lists, x)
		}
	}
	return lists
}

// wantNewLists checks that no two lists that a call returns share memory, and overwrites all of them.
func wantNewLists(t *testing.T, name string, call func() []any) {
	t.Helper()
	for place := range listsOf(call()...) {
		// Each time anew, because the lists are overwritten.
		lists := listsOf(call()...)
		before := slices.Clone(lists)
		for k := range before {
			before[k] = slices.Clone(lists[k])
		}
		list := append(lists[place], -77)
		for k := range list[:cap(list)] {
			list[:cap(list)][k] = -77
		}
		room := lists[place][:cap(lists[place])]
		for k := range room {
			room[k] = -77
		}
		for k := range lists {
			if k != place && tell(lists[k]) != tell(before[k]) {
				t.Errorf("%s: the lists %d and %d share memory", name, place, k)
			}
		}
	}
}

func TestP1ResultsOfRodsAreNew(t *testing.T) {
	for _, ends := range [][2]impl.End{{held(4), inAir(2, 3)}, {held(4), shut()}, {shut(), held(3)}, {shut(), shut()}} {
		for _, n := range []int64{0, 1, 2} {
			one, sameOne := rodWithRoom(rodWith(1, 2, 5))
			two, sameTwo := rodWithRoom(rodWith(3, 4, 6))
			calls := func() []outcome { return outcomesOfRods(one, two, ends[0], ends[1], 0.25, 2, n) }
			for i, o := range calls() {
				wantNewLists(t, o.name, func() []any { return calls()[i].values })
				wantBool(t, o.name+" returns new memory", sameOne() && sameTwo(), true)
			}
		}
	}
	first, _ := impl.AnswerOfRod(rodWith(1, 2), 1)
	second, _ := impl.AnswerOfRod(rodWith(1, 2), 1)
	first[0] = 9
	if second[0] == 9 {
		t.Error("two answers share memory")
	}
}
