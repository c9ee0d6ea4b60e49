package tests

import (
	"math"
	"testing"

	"loop.example/g01309/impl"
)

// TestChapter2Examples asserts the examples at the end of chapter 2.
func TestChapter2Examples(t *testing.T) {
	r, ok := impl.PlainRod(2, 1, 1, 1, 0)
	wantBool(t, "PlainRod", ok, true)
	wantText(t, "it hinders", toldNumber(impl.HinderOf(r)), toldNumber(2, true))
	wantText(t, "it lets pass", toldNumber(impl.PassBetween(r, 0)), toldNumber(1, true))
	rest, flow, ok := impl.SteadyRod(r, held(4), held(0))
	wantText(t, "it becomes at last", toldWarms(rest, ok), told([]float32{3, 1}, true))
	wantText(t, "what flows then", toldNumber(flow, ok), toldNumber(2, true))
}

// TestChapter2EvenRodsStay asserts the last example: a rod that is as warm as both ends stays as it is.
func TestChapter2EvenRodsStay(t *testing.T) {
	for _, count := range []int64{1, 2, 3, 48} {
		for _, end := range []impl.End{held(5), inAir(5, 1), shut()} {
			r, _ := impl.PlainRod(count, 1, 1, 1, 5)
			end.Warm = 5
			what := impl.Decimal(count) + " cells, the ends " + impl.Decimal(end.Kind)
			steps, _, stepped := impl.RunRod(r, end, end, 0.25, 20, false)
			rows, _, rowed := impl.RunRod(r, end, end, 1, 1, true)
			rest, flow, rested := impl.SteadyRod(r, end, end)
			if !stepped || !impl.SameRod(steps, r) || !rested || !impl.SameRod(rest, r) || bitsOf(flow) != plusZero {
				t.Errorf("%s: got %v, %v, with the flow %v", what, steps, rest, flow)
			}
			wantBool(t, what+", RowsRod", rowed, true)
			for _, warm := range rows.Warms {
				wantNear(t, what+", RowsRod", warm, 5, 1e-5)
			}
		}
	}
}

func TestChapter2Limits(t *testing.T) {
	if impl.MaxCells != 48 || impl.MaxSteps != 128 || impl.EndHeld != 0 || impl.EndShut != 1 || impl.EndAir != 2 {
		t.Error("a constant is not as the chapter has it")
	}
}

func TestP3RodsByTheirBits(t *testing.T) {
	for _, c := range rodCases {
		r, left, right, tick := rodOf(c.rod), endOf(c.left), endOf(c.right), numbers(c.tick)[0]
		check := func(name, got, want string) {
			t.Helper()
			wantText(t, c.what+", "+name, got, want)
		}
		check("LongOfRod", toldNumber(impl.LongOfRod(r)), c.long)
		check("HeatOfRod", toldNumber(impl.HeatOfRod(r)), c.heat)
		check("MeanOfRod", toldNumber(impl.MeanOfRod(r)), c.mean)
		check("HinderOf", toldNumber(impl.HinderOf(r)), c.hinder)
		check("passes", passesTold(r, left, right), c.passes)
		check("FlowsInRod", told(impl.FlowsInRod(r, left, right)), c.flows)
		check("SafeTick", toldNumber(impl.SafeTick(r, left, right)), c.safe)
		check("StepRod", toldWarms(impl.StepRod(r, left, right, tick)), c.step)
		check("RowsRod", toldWarms(impl.RowsRod(r, left, right, tick)), c.rows)
		_, heats, ok := impl.RunRod(r, left, right, tick, 3, false)
		check("RunRod with steps", told(heats, ok), c.stepHeats)
		_, heats, ok = impl.RunRod(r, left, right, tick, 3, true)
		check("RunRod with rows", told(heats, ok), c.rowsHeats)
		rest, flow, ok := impl.SteadyRod(r, left, right)
		check("SteadyRod", toldWarms(rest, ok), c.steady)
		check("SteadyRod, the flow", toldNumber(flow, ok), c.flow)
		check("AnswerOfRod", toldComplex(impl.AnswerOfRod(r, tick)), c.answer)
	}
}

// passesTold tells all passes of a rod from left to right.
func passesTold(r impl.Rod, left, right impl.End) string {
	first, all := impl.PassAtEnd(r, false, left)
	list := []float32{first}
	for i := range len(r.Warms) - 1 {
		pass, ok := impl.PassBetween(r, int64(i))
		list = append(list, pass)
		all = all && ok
	}
	last, ok := impl.PassAtEnd(r, true, right)
	return told(append(list, last), all && ok)
}

func TestP3ValidRods(t *testing.T) {
	for _, count := range []int64{1, 2, 47, 48} {
		r, ok := impl.PlainRod(count, 2, 3, 4, -5)
		wantBool(t, "PlainRod of "+impl.Decimal(count), ok && impl.ValidRod(r), true)
		if int64(len(r.Warms)) != count || r.Wides[count-1] != 2 || r.Eases[count-1] != 3 || r.Holds[count-1] != 4 || r.Warms[count-1] != -5 {
			t.Errorf("PlainRod of %d: got %v", count, r)
		}
	}
	for _, count := range []int64{0, -1, 49, math.MinInt64, math.MaxInt64} {
		_, ok := impl.PlainRod(count, 1, 1, 1, 1)
		wantBool(t, "PlainRod of "+impl.Decimal(count), ok, false)
	}
	for _, r := range invalidRods() {
		wantBool(t, "ValidRod of "+tell(r), impl.ValidRod(r), false)
	}
}

// invalidRods are rods each of which is wrong in one way.
func invalidRods() []impl.Rod {
	wrong := func(change func(r *impl.Rod)) impl.Rod {
		r := rodWith(1, 2, 3)
		change(&r)
		return r
	}
	list := []impl.Rod{
		{},
		rodWith(make([]float32, 49)...),
		wrong(func(r *impl.Rod) { r.Wides = r.Wides[:2] }),
		wrong(func(r *impl.Rod) { r.Eases = append(r.Eases, 1) }),
		wrong(func(r *impl.Rod) { r.Holds = nil }),
		wrong(func(r *impl.Rod) { r.Warms = r.Warms[:2] }),
	}
	for _, bits := range []uint32{plusZero, minusZero, 0x80000001, bitsOf(-1), plusInf, minusInf, nanBits} {
		for i := range 3 {
			list = append(list,
				wrong(func(r *impl.Rod) { r.Wides[i] = num(bits) }),
				wrong(func(r *impl.Rod) { r.Eases[i] = num(bits) }),
				wrong(func(r *impl.Rod) { r.Holds[i] = num(bits) }))
			if x := num(bits); x-x != 0 {
				list = append(list, wrong(func(r *impl.Rod) { r.Warms[i] = x }))
			}
		}
	}
	return list
}

func TestP3RodsOfLeastAndGreatestNumbers(t *testing.T) {
	for _, bits := range []uint32{leastBits, greatest} {
		x := num(bits)
		r := impl.Rod{Wides: []float32{x}, Eases: []float32{x}, Holds: []float32{x}, Warms: []float32{-x}}
		wantBool(t, "ValidRod of "+tell(r), impl.ValidRod(r), true)
		wantBool(t, "ValidEnd", impl.ValidEnd(impl.End{Kind: impl.EndShut, Warm: -x, Ease: x}), true)
	}
	wantBool(t, "ValidRod with -0", impl.ValidRod(rodWith(num(minusZero))), true)
}

func TestP3SameRods(t *testing.T) {
	parts := func(r *impl.Rod) []*[]float32 { return []*[]float32{&r.Wides, &r.Eases, &r.Holds, &r.Warms} }
	for part := range 4 {
		for _, x := range strangeNumbers() {
			for _, y := range strangeNumbers() {
				a, b := rodWith(1, 2), rodWith(1, 2)
				(*parts(&a)[part])[1], (*parts(&b)[part])[1] = x, y
				wantBool(t, "SameRod of "+tell(a, b), impl.SameRod(a, b), bitsOf(x) == bitsOf(y))
			}
		}
		a, b := rodWith(1, 2), rodWith(1, 2)
		*parts(&b)[part] = (*parts(&b)[part])[:1]
		wantBool(t, "SameRod of lists of other lengths", impl.SameRod(a, b) || impl.SameRod(b, a), false)
		*parts(&a)[part], *parts(&b)[part] = nil, []float32{}
		wantBool(t, "SameRod of nil and an empty list", impl.SameRod(a, b), true)
	}
	wantBool(t, "SameRod of rods without cells", impl.SameRod(impl.Rod{}, impl.Rod{}), true)
	long := rodWith(make([]float32, 60)...)
	wantBool(t, "SameRod of long rods", impl.SameRod(long, long), true)
}

func TestP3SameEnds(t *testing.T) {
	for _, x := range strangeNumbers() {
		for _, y := range strangeNumbers() {
			want := bitsOf(x) == bitsOf(y)
			wantBool(t, "SameEnd with a Warm", impl.SameEnd(impl.End{Kind: 9, Warm: x, Ease: 1}, impl.End{Kind: 9, Warm: y, Ease: 1}), want)
			wantBool(t, "SameEnd with an Ease", impl.SameEnd(impl.End{Warm: 1, Ease: x}, impl.End{Warm: 1, Ease: y}), want)
		}
	}
	wantBool(t, "SameEnd of other kinds", impl.SameEnd(held(1), inAir(1, 1)), false)
	wantBool(t, "SameEnd of no kinds", impl.SameEnd(impl.End{Kind: -1}, impl.End{Kind: -1}), true)
}

func TestP3ValidEnds(t *testing.T) {
	for _, kind := range []int64{impl.EndHeld, impl.EndShut, impl.EndAir} {
		wantBool(t, "ValidEnd", impl.ValidEnd(impl.End{Kind: kind, Warm: -3, Ease: 0.5}), true)
		for _, e := range invalidEnds(kind) {
			wantBool(t, "ValidEnd of "+tell(e), impl.ValidEnd(e), false)
		}
	}
	for _, kind := range []int64{-1, 3, 256, 1 << 32, math.MinInt64, math.MaxInt64} {
		wantBool(t, "ValidEnd of the kind "+impl.Decimal(kind), impl.ValidEnd(impl.End{Kind: kind, Ease: 1}), false)
	}
}

// invalidEnds are ends of a kind each of which is wrong in one way.
func invalidEnds(kind int64) []impl.End {
	var list []impl.End
	for _, bits := range []uint32{plusInf, minusInf, nanBits} {
		list = append(list, impl.End{Kind: kind, Warm: num(bits), Ease: 1})
	}
	for _, bits := range []uint32{plusZero, minusZero, 0x80000001, bitsOf(-1), plusInf, minusInf, nanBits} {
		list = append(list, impl.End{Kind: kind, Warm: 1, Ease: num(bits)})
	}
	return list
}

func TestP3RodsAreJoinedAndTurned(t *testing.T) {
	a := impl.Rod{Wides: []float32{1, 2}, Eases: []float32{3, 4}, Holds: []float32{5, 6}, Warms: []float32{7, 8}}
	b := impl.Rod{Wides: []float32{10}, Eases: []float32{20}, Holds: []float32{30}, Warms: []float32{-40}}
	both, ok := impl.JoinRods(a, b)
	want := impl.Rod{Wides: []float32{1, 2, 10}, Eases: []float32{3, 4, 20}, Holds: []float32{5, 6, 30}, Warms: []float32{7, 8, -40}}
	wantText(t, "JoinRods", tell(both, ok), tell(want, true))
	back, ok := impl.BackRod(both)
	want = impl.Rod{Wides: []float32{10, 2, 1}, Eases: []float32{20, 4, 3}, Holds: []float32{30, 6, 5}, Warms: []float32{-40, 8, 7}}
	wantText(t, "BackRod", tell(back, ok), tell(want, true))
	again, ok := impl.BackRod(back)
	wantText(t, "BackRod twice", tell(again, ok), tell(both, true))
	one, ok := impl.BackRod(b)
	wantText(t, "BackRod of one cell", tell(one, ok), tell(b, true))

	half := rodWith(make([]float32, 24)...)
	full, ok := impl.JoinRods(half, half)
	wantBool(t, "JoinRods to 48 cells", ok && len(full.Warms) == 48, true)
	_, ok = impl.JoinRods(full, b)
	wantBool(t, "JoinRods to 49 cells", ok, false)
}

func TestP3WarmsAreSet(t *testing.T) {
	r := impl.Rod{Wides: []float32{1, 2}, Eases: []float32{3, 4}, Holds: []float32{5, 6}, Warms: []float32{7, 8}}
	other, ok := impl.SetWarms(r, []float32{num(minusZero), -9})
	want := r
	want.Warms = []float32{num(minusZero), -9}
	wantText(t, "SetWarms", tell(other, ok), tell(want, true))
	for _, warms := range [][]float32{nil, {1}, {1, 2, 3}, {1, num(plusInf)}, {num(nanBits), 1}} {
		_, ok := impl.SetWarms(r, warms)
		wantBool(t, "SetWarms to "+tell(warms), ok, false)
	}
}

func TestP3RodsOfOneCell(t *testing.T) {
	r := rodWith(2)
	for _, i := range []int64{-1, 0, 1} {
		_, ok := impl.PassBetween(r, i)
		wantBool(t, "PassBetween "+impl.Decimal(i), ok, false)
	}
	for _, last := range []bool{false, true} {
		wantText(t, "a held end", toldNumber(impl.PassAtEnd(r, last, held(9))), toldNumber(2, true))
		wantText(t, "a shut end", toldNumber(impl.PassAtEnd(r, last, shut())), toldNumber(0, true))
		wantText(t, "an end in air", toldNumber(impl.PassAtEnd(r, last, inAir(9, 2))), toldNumber(1, true))
	}
	wantText(t, "FlowsInRod", told(impl.FlowsInRod(r, held(4), inAir(0, 2))), told([]float32{4, 2}, true))
	wantText(t, "SafeTick", toldNumber(impl.SafeTick(r, held(4), held(0))), toldNumber(0.25, true))
	wantText(t, "StepRod", toldWarms(impl.StepRod(r, held(4), held(2), 0.25)), told([]float32{3}, true))
	// 2 for the tick and 2 for both ends: 2 2 + 2 4 + 2 5 is 22.
	wantText(t, "RowsRod", toldWarms(impl.RowsRod(r, held(4), held(5), 0.5)), told([]float32{22. / 6}, true))
	rest, flow, ok := impl.SteadyRod(r, held(4), held(0))
	wantText(t, "SteadyRod", tell(rest, flow, ok), tell(rodWith(2), float32(4), true))
	for _, place := range []float32{-9, 0, 0.5, 1, 9} {
		wantText(t, "WarmAt", toldNumber(impl.WarmAt(r, place)), toldNumber(2, true))
	}
	for _, warm := range []float32{1, 2, 3} {
		_, ok := impl.PlaceOf(r, warm)
		wantBool(t, "PlaceOf", ok, false)
	}
}

func TestP3ShutEnds(t *testing.T) {
	r := rodWith(1, 5, 3)
	// What a shut end is told besides does not matter.
	odd := impl.End{Kind: impl.EndShut, Warm: 1000, Ease: 7}
	wantText(t, "SafeTick", toldNumber(impl.SafeTick(r, odd, shut())), toldNumber(0.5, true))
	flows, ok := impl.FlowsInRod(r, odd, shut())
	if !ok || len(flows) != 4 || flows[0] != 0 || flows[1] != -4 || flows[2] != 2 || flows[3] != 0 {
		t.Errorf("FlowsInRod: got %v, %v", flows, ok)
	}
	wantText(t, "StepRod", toldWarms(impl.StepRod(r, odd, shut(), 0.25)), told([]float32{2, 3.5, 3.5}, true))
	one, _ := impl.RowsRod(r, odd, shut(), 0.5)
	two, _ := impl.RowsRod(r, shut(), odd, 0.5)
	wantText(t, "RowsRod", tell(one), tell(two))

	rest, flow, ok := impl.SteadyRod(r, odd, shut())
	wantText(t, "SteadyRod", tell(rest, flow, ok), tell(rodWith(3, 3, 3), float32(0), true))
	rest, flow, ok = impl.SteadyRod(r, odd, held(-2))
	wantText(t, "SteadyRod, shut on the left side", tell(rest, flow, ok), tell(rodWith(-2, -2, -2), float32(0), true))
	rest, flow, ok = impl.SteadyRod(r, inAir(-3, 1), odd)
	wantText(t, "SteadyRod, shut on the right side", tell(rest, flow, ok), tell(rodWith(-3, -3, -3), float32(0), true))
	for _, one := range []impl.Rod{rodWith(5), rodWith(-5)} {
		_, ok = impl.SafeTick(one, shut(), odd)
		wantBool(t, "SafeTick of one cell without passes", ok, false)
		wantText(t, "StepRod of one cell", tell(impl.StepRod(one, shut(), odd, 1000)), tell(one, true))
		wantText(t, "RowsRod of one cell", tell(impl.RowsRod(one, shut(), odd, 4)), tell(one, true))
	}
}

// TestP3FlowsThroughTwoSkins has a rod whose flow tells in which order what hinders is added.
func TestP3FlowsThroughTwoSkins(t *testing.T) {
	r := rodWith(0, 0)
	r.Eases = []float32{3, 8}
	rest, flow, ok := impl.SteadyRod(r, inAir(8, 3), inAir(0, 1))
	wantText(t, "SteadyRod", toldWarms(rest, ok), "40b88ee2,4097d05e")
	wantText(t, "SteadyRod, the flow", toldNumber(flow, ok), "408ee23c")
}

func TestP3PassesBetweenCells(t *testing.T) {
	r := impl.Rod{Wides: []float32{1, 3, 2}, Eases: []float32{2, 1, 4}, Holds: []float32{1, 1, 1}, Warms: []float32{0, 0, 0}}
	wantText(t, "PassBetween 0", toldNumber(impl.PassBetween(r, 0)), toldNumber(1/float32(1.75), true))
	wantText(t, "PassBetween 1", toldNumber(impl.PassBetween(r, 1)), toldNumber(1/float32(1.75), true))
	wantText(t, "PassAtEnd, the first one", toldNumber(impl.PassAtEnd(r, false, held(0))), toldNumber(4, true))
	wantText(t, "PassAtEnd, the last one", toldNumber(impl.PassAtEnd(r, true, inAir(0, 4))), toldNumber(2, true))
	for _, i := range []int64{-1, 2, 3, 1 << 32, math.MinInt64, math.MaxInt64} {
		_, ok := impl.PassBetween(r, i)
		wantBool(t, "PassBetween "+impl.Decimal(i), ok, false)
	}
}

func TestP3TicksAreChecked(t *testing.T) {
	r := rodWith(1, 2)
	for _, c := range []struct {
		bits       uint32
		step, rows bool
	}{
		{oneBits, true, true}, {leastBits, true, false}, {plusZero, true, false}, {minusZero, true, false},
		{0x80000001, false, false}, {bitsOf(-1), false, false}, {plusInf, false, false}, {minusInf, false, false}, {nanBits, false, false},
	} {
		_, ok := impl.StepRod(r, held(0), shut(), num(c.bits))
		wantBool(t, "StepRod with "+hex(c.bits), ok, c.step)
		_, ok = impl.RowsRod(r, held(0), shut(), num(c.bits))
		wantBool(t, "RowsRod with "+hex(c.bits), ok, c.rows)
		for _, ticks := range []int64{0, 1} {
			_, _, ok = impl.RunRod(r, held(0), shut(), num(c.bits), ticks, false)
			wantBool(t, "RunRod with "+hex(c.bits), ok, c.step)
		}
		_, _, ok = impl.RunRod(r, held(0), shut(), num(c.bits), 1, true)
		wantBool(t, "RunRod by rows with "+hex(c.bits), ok, c.rows)
		_, _, ok = impl.RunRod(r, held(0), shut(), num(c.bits), 0, true)
		wantBool(t, "RunRod by no rows with "+hex(c.bits), ok, c.bits == leastBits || c.rows)
	}
}

func TestP3RunsAreTicksOneAfterAnother(t *testing.T) {
	s := somewhere(3)
	for _, count := range []int{1, 2, 9} {
		r, left, right := s.rod(count), held(3), inAir(-2, 1.5)
		for _, rows := range []bool{false, true} {
			step := impl.StepRod
			if rows {
				step = impl.RowsRod
			}
			last := r
			var heats []float32
			for ticks := range int64(6) {
				got, gotHeats, ok := impl.RunRod(r, left, right, 0.01, ticks, rows)
				wantText(t, "RunRod", tell(got, gotHeats, ok), tell(last, heats, true))
				last, _ = step(last, left, right, 0.01)
				heat, _ := impl.HeatOfRod(last)
				heats = append(heats, heat)
			}
		}
	}
	r := rodWith(1, 2)
	_, heats, ok := impl.RunRod(r, shut(), shut(), 0.25, 128, false)
	wantBool(t, "RunRod with 128 ticks", ok && len(heats) == 128, true)
	for _, ticks := range []int64{129, -1, math.MinInt64, math.MaxInt64} {
		for _, rows := range []bool{false, true} {
			_, _, ok = impl.RunRod(r, shut(), shut(), 0.25, ticks, rows)
			wantBool(t, "RunRod with "+impl.Decimal(ticks)+" ticks", ok, false)
		}
	}
	// Behind a tick the rod is valid, but its heat is not finite.
	hot, end := rodWith(1.6e38, 1.6e38), held(3.2e38)
	_, ok = impl.StepRod(hot, end, end, 0.25)
	wantBool(t, "StepRod of a hot rod", ok, true)
	_, _, ok = impl.RunRod(hot, end, end, 0.25, 0, false)
	wantBool(t, "RunRod of a hot rod with no tick", ok, true)
	_, _, ok = impl.RunRod(hot, end, end, 0.25, 1, false)
	wantBool(t, "RunRod of a hot rod with one tick", ok, false)
}

// heatSize returns the sum of what the cells hold, without signs.
func heatSize(r impl.Rod) float64 {
	size := 0.0
	for i := range r.Warms {
		size += math.Abs(float64(r.Wides[i]) * float64(r.Holds[i]) * float64(r.Warms[i]))
	}
	return size
}

func TestP3ShutRodsKeepTheirHeat(t *testing.T) {
	s := somewhere(1)
	for count := 1; count <= 48; count++ {
		r := s.rod(count)
		before, _ := impl.HeatOfRod(r)
		tick, ok := impl.SafeTick(r, shut(), shut())
		wantBool(t, "SafeTick of "+impl.Decimal(int64(count)), ok, count > 1)
		if count == 1 {
			tick = 1
		}
		for _, rows := range []bool{false, true} {
			if rows {
				tick *= 100
			}
			_, heats, ok := impl.RunRod(r, shut(), shut(), tick, 60, rows)
			wantBool(t, "RunRod", ok && len(heats) == 60, true)
			for _, heat := range heats {
				wantNear(t, "the heat of "+impl.Decimal(int64(count))+" cells", heat, float64(before), 1e-4*heatSize(r))
			}
		}
	}
}

func TestP3HeatThatFlowsInStaysIn(t *testing.T) {
	s := somewhere(2)
	for count := 1; count <= 48; count++ {
		r := s.rod(count)
		for _, ends := range endPairs(&s) {
			tick, ok := impl.SafeTick(r, ends[0], ends[1])
			if !ok {
				continue
			}
			before, _ := impl.HeatOfRod(r)
			flows, _ := impl.FlowsInRod(r, ends[0], ends[1])
			next, _ := impl.StepRod(r, ends[0], ends[1], tick)
			after, _ := impl.HeatOfRod(next)
			wantNear(t, "the heat behind a step", after, float64(before)+float64(tick)*float64(flows[0]-flows[count]), 1e-4*heatSize(r))
			// RowsRod lets flow what flows at its end.
			next, _ = impl.RowsRod(r, ends[0], ends[1], tick)
			after, _ = impl.HeatOfRod(next)
			flows, _ = impl.FlowsInRod(next, ends[0], ends[1])
			wantNear(t, "the heat behind rows", after, float64(before)+float64(tick)*float64(flows[0]-flows[count]), 1e-4*heatSize(r))
		}
	}
}

func endPairs(s *somewhere) [][2]impl.End {
	var list [][2]impl.End
	for left := range int64(3) {
		for right := range int64(3) {
			list = append(list, [2]impl.End{
				{Kind: left, Warm: s.number(-30, 30), Ease: s.number(0.2, 3)},
				{Kind: right, Warm: s.number(-30, 30), Ease: s.number(0.2, 3)},
			})
		}
	}
	return list
}

func TestP3RodsAtRestStayThere(t *testing.T) {
	s := somewhere(4)
	for count := 1; count <= 48; count++ {
		r := s.rod(count)
		for _, ends := range endPairs(&s) {
			rest, flow, ok := impl.SteadyRod(r, ends[0], ends[1])
			wantBool(t, "SteadyRod", ok, true)
			what := "a rod at rest of " + impl.Decimal(int64(count)) + " cells between " + tell(ends[0], ends[1])
			flows, _ := impl.FlowsInRod(rest, ends[0], ends[1])
			for _, x := range flows {
				wantNear(t, "a flow in "+what, x, float64(flow), 2e-3)
			}
			tick, ok := impl.SafeTick(r, ends[0], ends[1])
			if !ok {
				tick = 1
			}
			steps, _, stepped := impl.RunRod(rest, ends[0], ends[1], tick/2, 40, false)
			rows, _, rowed := impl.RunRod(rest, ends[0], ends[1], 50*tick, 40, true)
			wantBool(t, "RunRod", stepped && rowed, true)
			for i, warm := range rest.Warms {
				wantNear(t, what+", steps", steps.Warms[i], float64(warm), 2e-3)
				wantNear(t, what+", rows", rows.Warms[i], float64(warm), 2e-3)
			}
		}
	}
}

func TestP3RodsComeToRest(t *testing.T) {
	s := somewhere(5)
	for count := 1; count <= 16; count++ {
		r := s.rod(count)
		for _, ends := range endPairs(&s) {
			rest, _, _ := impl.SteadyRod(r, ends[0], ends[1])
			last, _, ok := impl.RunRod(r, ends[0], ends[1], 1000, 20, true)
			wantBool(t, "RunRod", ok, true)
			for i, warm := range rest.Warms {
				wantNear(t, "a Warm at last, "+impl.Decimal(int64(count))+" cells", last.Warms[i], float64(warm), 5e-2)
			}
		}
	}
}

func TestP3TurnedRodsAnswerAlike(t *testing.T) {
	s := somewhere(6)
	for _, count := range []int{1, 2, 7, 48} {
		r := s.rod(count)
		back, _ := impl.BackRod(r)
		for _, ends := range endPairs(&s) {
			next, _ := impl.StepRod(r, ends[0], ends[1], 0.01)
			turned, _ := impl.StepRod(back, ends[1], ends[0], 0.01)
			for i, warm := range next.Warms {
				wantNear(t, "StepRod", turned.Warms[count-1-i], float64(warm), 1e-4)
			}
			next, flow, _ := impl.SteadyRod(r, ends[0], ends[1])
			turned, flowBack, _ := impl.SteadyRod(back, ends[1], ends[0])
			wantNear(t, "the flow", flowBack, -float64(flow), 1e-4)
			for i, warm := range next.Warms {
				wantNear(t, "SteadyRod", turned.Warms[count-1-i], float64(warm), 1e-3)
			}
		}
	}
}

// TestP3FailuresAreHandedOn has rods for which a function fails whose result another one takes.
func TestP3FailuresAreHandedOn(t *testing.T) {
	far := num(greatest)
	// The heat is not finite, but the flows are.
	hot := rodWith(far, far)
	_, ok := impl.MeanOfRod(hot)
	wantBool(t, "MeanOfRod of a heat that is not finite", ok, false)
	_, _, ok = impl.SteadyRod(hot, shut(), shut())
	wantBool(t, "SteadyRod of a heat that is not finite", ok, false)
	_, ok = impl.StepRod(hot, held(far), held(far), 0.25)
	wantBool(t, "StepRod of a heat that is not finite", ok, true)

	// What it hinders is not finite, but all passes are.
	slow := impl.Rod{Wides: []float32{1e38, 1e38, 1e38, 1e38}, Eases: []float32{1, 1, 1, 1}, Holds: []float32{1, 1, 1, 1}, Warms: []float32{0, 0, 0, 0}}
	_, ok = impl.HinderOf(slow)
	wantBool(t, "HinderOf", ok, false)
	_, _, ok = impl.SteadyRod(slow, held(4), held(4))
	wantBool(t, "SteadyRod of what hinders without bound", ok, false)
	rest, flow, ok := impl.SteadyRod(slow, held(4), shut())
	wantText(t, "SteadyRod with a shut end", tell(rest.Warms, flow, ok), tell([]float32{4, 4, 4, 4}, float32(0), true))

	// What two cells hinder is not finite, but the half of the last one is not needed for its Warm.
	slow = impl.Rod{Wides: []float32{1.98e38, 1.98e38}, Eases: []float32{1, 1}, Holds: []float32{1, 1}, Warms: []float32{0, 0}}
	_, _, ok = impl.SteadyRod(slow, held(4), held(4))
	wantBool(t, "SteadyRod of two cells that hinder without bound", ok, false)

	// A pass is not finite, where nothing flows.
	thin := impl.Rod{Wides: []float32{1e-30, 1e-30}, Eases: []float32{1e30, 1e30}, Holds: []float32{1, 1}, Warms: []float32{0, 0}}
	for _, ends := range [][2]impl.End{{shut(), shut()}, {shut(), held(0)}} {
		wantText(t, "FlowsInRod", told(impl.FlowsInRod(thin, ends[0], ends[1])), "fail")
		wantText(t, "SafeTick", toldNumber(impl.SafeTick(thin, ends[0], ends[1])), "fail")
		wantText(t, "RowsRod", toldWarms(impl.RowsRod(thin, ends[0], ends[1], 1)), "fail")
	}
	thin.Wides[1], thin.Eases[1] = 1, 1
	wantText(t, "RowsRod with a held end", toldWarms(impl.RowsRod(thin, held(0), shut(), 1)), "fail")
	wantText(t, "SafeTick with a held end", toldNumber(impl.SafeTick(thin, held(0), shut())), "fail")
	_, _, ok = impl.SteadyRod(thin, held(0), held(1))
	wantBool(t, "SteadyRod with a held end", ok, false)
	back, _ := impl.BackRod(thin)
	_, _, ok = impl.SteadyRod(back, held(0), held(1))
	wantBool(t, "SteadyRod with a held end on the right side", ok, false)
	wantText(t, "RowsRod with a shut end", toldWarms(impl.RowsRod(thin, shut(), shut(), 1)), told([]float32{0, 0}, true))
}

func TestP3SafeTicks(t *testing.T) {
	r := impl.Rod{Wides: []float32{1, 1, 1}, Eases: []float32{1, 1, 1}, Holds: []float32{4, 3, 1}, Warms: []float32{0, 0, 0}}
	wantText(t, "the last cell is the quickest", toldNumber(impl.SafeTick(r, shut(), shut())), toldNumber(1, true))
	r.Holds[2] = 9
	wantText(t, "the middle cell is the quickest", toldNumber(impl.SafeTick(r, shut(), shut())), toldNumber(1.5, true))
	wantText(t, "the first cell is the quickest", toldNumber(impl.SafeTick(r, held(0), shut())), toldNumber(4/float32(3), true))
	// The first cell has no passes, and 0 / 0 is not asked.
	far := impl.Rod{Wides: []float32{1e-3, 1e-3, 1}, Eases: []float32{1e-45, 1e-45, 1}, Holds: []float32{1e-45, 1, 1}, Warms: []float32{0, 0, 0}}
	wantText(t, "cells without passes", toldNumber(impl.SafeTick(far, shut(), held(0))), toldNumber(0.5, true))
	r.Wides = []float32{num(greatest), num(greatest), num(greatest)}
	r.Eases = r.Wides
	_, ok := impl.SafeTick(r, shut(), shut())
	wantBool(t, "a tick that is not finite", ok, false)
}

func TestP3Places(t *testing.T) {
	r := rodOf("40281e75,4011295a,4016b164,3e059760,3fad78c8,3f3d6a1d;3ec80c82,4002cf6f,3fad3cea,40173333,402ebd3d,4028a8ee;" +
		"3fff23cf,40787fe5,4058cf14,407aa44d,40084d4c,408b2caa;c1d45eb0,4244e5e8,c175158d,4122c39d,41ad34a0,bfceb1f7")
	for _, c := range [][2]uint32{
		{0x3fa81e75, 0xc1d45eb0}, {0x3f281e75, 0xc1d45eb0}, {bitsOf(-5), 0xc1d45eb0}, {minusZero, 0xc1d45eb0}, {0x4111af15, 0xbfceb1f7},
		{0x411348af, 0xbfceb1f7}, {bitsOf(1e9), 0xbfceb1f7}, {0x409e250c, 0x4181f384}, {0x4101c74d, 0x41a3b3cc},
		{0x405399a7, 0x420c97ea}, {0x40b57628, 0xc0834ac0}, {0x40bb19c0, 0xc11060c4}, {0x40ec0781, 0x4131de88},
		{0x40c25041, 0xc1751590}, {0xff7fffff, 0xc1d45eb0}, {greatest, 0xbfceb1f7},
	} {
		wantText(t, "WarmAt "+hex(c[0]), toldNumber(impl.WarmAt(r, num(c[0]))), toldNumber(num(c[1]), true))
	}
	for _, c := range [][2]uint32{
		{0x4122c39d, 0x401ff7e6}, {0x4244e5e8, 0x4070b322}, {0xc13a7f23, 0x3fe5af09}, {0x41c666a6, 0x403e3518},
		{0xc0fc4991, 0x3ff54796}, {0x41e8626b, 0x4046fd36}, {0x412d4667, 0x40215390}, {0xc101feb4, 0x3ff448d0},
	} {
		wantText(t, "PlaceOf "+hex(c[0]), toldNumber(impl.PlaceOf(r, num(c[0]))), toldNumber(num(c[1]), true))
	}
	for _, bits := range []uint32{0xc1d45eb0, bitsOf(-100), bitsOf(100), 0xff7fffff, greatest, plusInf, minusInf, nanBits} {
		wantText(t, "PlaceOf "+hex(bits), toldNumber(impl.PlaceOf(r, num(bits))), "fail")
	}
	for _, bits := range []uint32{plusInf, minusInf, nanBits} {
		wantText(t, "WarmAt "+hex(bits), toldNumber(impl.WarmAt(r, num(bits))), "fail")
	}
}

func TestP3PlacesOfEvenAndFallingRods(t *testing.T) {
	even := rodWith(2, 2, 2)
	wantText(t, "PlaceOf in an even rod", toldNumber(impl.PlaceOf(even, 2)), "fail")
	r := rodWith(5, 5, 3, 1, 3)
	for _, c := range [][2]float32{{5, 1.5}, {4, 2}, {3, 2.5}, {2, 3}} {
		wantText(t, "PlaceOf", toldNumber(impl.PlaceOf(r, c[0])), toldNumber(c[1], true))
	}
	wantText(t, "PlaceOf of the least Warm", toldNumber(impl.PlaceOf(r, 1)), "fail")
	rising := rodWith(1, 3, 3, 5)
	for _, c := range [][2]float32{{3, 1.5}, {2, 1}, {5, 3.5}, {4, 3}} {
		wantText(t, "PlaceOf in a rising rod", toldNumber(impl.PlaceOf(rising, c[0])), toldNumber(c[1], true))
	}
	for _, warm := range []float32{1.5, 2, 2.75} {
		place, _ := impl.PlaceOf(rising, warm)
		wantText(t, "WarmAt PlaceOf", toldNumber(impl.WarmAt(rising, place)), toldNumber(warm, true))
	}
	// The place 1 is both the end of a first cell and no middle: it stands between 0.5 and 2.
	uneven := impl.Rod{Wides: []float32{1, 2, 4}, Eases: []float32{1, 1, 1}, Holds: []float32{1, 1, 1}, Warms: []float32{0, 3, 9}}
	for _, c := range [][2]float32{{0.5, 0}, {1, 1}, {2, 3}, {3, 5}, {5, 9}, {6, 9}} {
		wantText(t, "WarmAt", toldNumber(impl.WarmAt(uneven, c[0])), toldNumber(c[1], true))
	}
}

func TestP3MiddlesMustBeFinite(t *testing.T) {
	r := rodWith(1, 2, 3)
	r.Wides = []float32{1, 3e38, 3e38}
	wantText(t, "WarmAt", toldNumber(impl.WarmAt(r, 0)), "fail")
	wantText(t, "PlaceOf", toldNumber(impl.PlaceOf(r, 1.5)), "fail")
	// Here all middles are finite, but the length is not.
	r.Wides = []float32{1, 3e38, 0.5e38}
	wantText(t, "LongOfRod", toldNumber(impl.LongOfRod(r)), "fail")
	wantText(t, "WarmAt", toldNumber(impl.WarmAt(r, num(greatest))), toldNumber(3, true))
	// The difference of two Warms is not finite.
	r = rodWith(num(0xff7fffff), num(greatest))
	wantText(t, "WarmAt", toldNumber(impl.WarmAt(r, 1)), "fail")
	wantText(t, "PlaceOf", toldNumber(impl.PlaceOf(r, num(greatest))), "fail")
	wantText(t, "PlaceOf of what is in reach", toldNumber(impl.PlaceOf(r, 0)), toldNumber(0.5, true))
	wantText(t, "WarmAt an end", toldNumber(impl.WarmAt(r, 0.5)), toldNumber(num(0xff7fffff), true))
}

func TestP3Fins(t *testing.T) {
	for _, c := range [][2]string{
		{"3f7166dc,3f0b6656,3ee98bed,3fc3794e", "3e9a6c49"},
		{"401e926e,3f48c92b,3fb7ff13,3f0ee6f8", "3eccaf41"},
		{"3f870375,4037b6bb,3f2cf569,403ee041", "3f03b5bf"},
		{"3ea0fcc7,40391832,3f561cbe,3fafe202", "3f76d3b3"},
		{"4038ed95,3fbeff5b,40221899,402fe9c9", "3e92a4a3"},
		{"403ee2ad,40167b87,3e8d3381,40193767", "3dfcb1e9"},
		// The fin is so long that nothing is left at its end, and at last more than any number.
		{"42c80000,3f800000,3f800000,40000000", "3ba3d70a"},
		{"7f7fffff,3f800000,3f800000,3f000000", "00200000"},
		{"7f7fffff,3f800000,3f800000,40000000", "00000000"},
		{"7f7fffff,00000001,00000001,7f7fffff", "00000000"},
		{"3f800000,40800000,3f800000,7f7fffff", "00000000"},
		{"00000001,7f7fffff,3f800000,00000001", "fail"},
		{"3f800000,7f7fffff,7f7fffff,7f7fffff", "fail"},
	} {
		list := numbers(c[0])
		wantText(t, "FinShare of "+c[0], toldNumber(impl.FinShare(list[0], list[1], list[2], list[3])), c[1])
	}
	s := somewhere(7)
	for range 100 {
		long, ease, thick, air := s.number(0.2, 3), s.number(0.2, 3), s.number(0.2, 3), s.number(0.2, 3)
		m := float64(long) * math.Sqrt(2*float64(air)/(float64(ease)*float64(thick)))
		share, _ := impl.FinShare(long, ease, thick, air)
		wantNear(t, "FinShare", share, math.Tanh(m)/m, 1e-5)
	}
}

func TestP3WaveDepths(t *testing.T) {
	for _, c := range [][2]string{
		{"41acf30b,4135b064,40e16e10", "3e962abe"},
		{"41cc5e9e,41e79b44,416b9ac0", "3e0d6cc8"},
		{"417cf745,3ff5e4df,4182c680", "3eccf6f4"},
		{"4112ba5c,412d27fb,40b0f682", "3e62265c"},
		{"3f28ff99,408ec7cf,41d88548", "3d2adc58"},
		{"411df827,41361959,416fc998", "3e0aff25"},
		{"40490fdb,3f800000,3f800000", "3f800000"},
		{"00000001,7f7fffff,3f800000", "00000000"},
		{"3f800000,00000001,00000001", "fail"},
	} {
		list := numbers(c[0])
		wantText(t, "WaveDepth of "+c[0], toldNumber(impl.WaveDepth(list[0], list[1], list[2])), c[1])
	}
}

func TestP3Waves(t *testing.T) {
	for _, c := range [][2]string{
		{"00000000,3f800000", "3f80000080000000"}, {"80000000,3f800000", "3f80000000000000"},
		{"3f800000,3f3bd740", "3d5869c1be80367a"}, {"3cbecf2f,3f64d85d", "3f7954c6bccfeffb"},
		{"3ff7c67d,3f800000", "bd52f8cebe0a0c3f"}, {"4063879b,3f510879", "bb93c9613c453ed7"},
		{"41612459,3ffd2e69", "3a0fcf7eba1d8283"}, {"42c80000,3f800000", "000000170000000e"},
		{"43480000,3f800000", "0000000000000000"}, {"5d800000,3f800000", "0000000000000000"},
		{"7f7fffff,3f800000", "0000000000000000"}, {"7f7fffff,3f000000", "fail"},
		{"80000001,3f800000", "fail"}, {"bf800000,3f800000", "fail"}, {"7f800000,3f800000", "fail"},
		{"7fc00000,3f800000", "fail"}, {"3f800000,00000000", "fail"}, {"3f800000,bf800000", "fail"},
		{"3f800000,7f800000", "fail"}, {"3f800000,7fc00000", "fail"},
	} {
		list := numbers(c[0])
		wave, ok := impl.WaveBelow(list[0], list[1])
		wantText(t, "WaveBelow of "+c[0], toldComplex([]complex64{wave}, ok), c[1])
	}
	for i := range 100 {
		q := float64(i) / 16
		wave, _ := impl.WaveBelow(float32(2*q), 2)
		wantNear(t, "WaveBelow, real part", real(wave), math.Exp(-q)*math.Cos(q), 1e-6)
		wantNear(t, "WaveBelow, imaginary part", imag(wave), -math.Exp(-q)*math.Sin(q), 1e-6)
	}
}

func TestP3PositiveNumbersAreAsked(t *testing.T) {
	for _, bits := range []uint32{plusZero, minusZero, 0x80000001, bitsOf(-1), plusInf, minusInf, nanBits} {
		x := num(bits)
		wantText(t, "FinShare, long", toldNumber(impl.FinShare(x, 1, 1, 1)), "fail")
		wantText(t, "FinShare, ease", toldNumber(impl.FinShare(1, x, 1, 1)), "fail")
		wantText(t, "FinShare, thick", toldNumber(impl.FinShare(1, 1, x, 1)), "fail")
		wantText(t, "FinShare, air", toldNumber(impl.FinShare(1, 1, 1, x)), "fail")
		wantText(t, "WaveDepth, ease", toldNumber(impl.WaveDepth(x, 1, 1)), "fail")
		wantText(t, "WaveDepth, hold", toldNumber(impl.WaveDepth(1, x, 1)), "fail")
		wantText(t, "WaveDepth, rate", toldNumber(impl.WaveDepth(1, 1, x)), "fail")
		wantText(t, "AnswerOfRod", toldComplex(impl.AnswerOfRod(rodWith(1, 2), x)), "fail")
	}
}

// TestP3AnswersSolveTheirRows checks that what swings into a cell is what it holds back.
func TestP3AnswersSolveTheirRows(t *testing.T) {
	s := somewhere(8)
	for count := 1; count <= 48; count++ {
		r, rate := s.rod(count), s.number(0.001, 0.1)
		answer, ok := impl.AnswerOfRod(r, rate)
		if !ok || len(answer) != count {
			t.Fatalf("AnswerOfRod: got %v, %v", answer, ok)
		}
		for i, x := range answer {
			before, after := complex64(1), x
			pass, _ := impl.PassAtEnd(r, false, held(1))
			if i > 0 {
				before = answer[i-1]
				pass, _ = impl.PassBetween(r, int64(i-1))
			}
			next := float32(0)
			if i+1 < count {
				after = answer[i+1]
				next, _ = impl.PassBetween(r, int64(i))
			}
			flow := complex128(before-x)*complex(float64(pass), 0) + complex128(after-x)*complex(float64(next), 0)
			kept := complex128(x) * complex(0, 2*math.Pi*float64(rate)*float64(r.Wides[i])*float64(r.Holds[i]))
			wantNear(t, "real part", float32(real(flow-kept)), 0, 1e-4)
			wantNear(t, "imaginary part", float32(imag(flow-kept)), 0, 1e-4)
		}
	}
	slow, _ := impl.AnswerOfRod(s.rod(5), 1e-9)
	for _, x := range slow {
		wantNear(t, "a slow swing", real(x), 1, 1e-5)
		wantNear(t, "a slow swing", imag(x), 0, 1e-5)
	}
}

// TestP3WarmsDoNotSwing checks that Warms do not matter where the left end swings.
func TestP3WarmsDoNotSwing(t *testing.T) {
	s := somewhere(9)
	r := s.rod(7)
	other, _ := impl.SetWarms(r, make([]float32, 7))
	one, _ := impl.AnswerOfRod(r, 0.3)
	two, _ := impl.AnswerOfRod(other, 0.3)
	wantText(t, "AnswerOfRod", tell(two), tell(one))
}
