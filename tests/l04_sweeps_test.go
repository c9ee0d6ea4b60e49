package tests

import (
	"math"
	"slices"
	"testing"

	"loop.example/g01309/impl"
)

// TestP5SweepsGoByColors checks that cells of the first color come first, and those of the other one see what they have become.
func TestP5SweepsGoByColors(t *testing.T) {
	for _, c := range []struct {
		wide        int64
		warms, want []float32
		haste, most float32
		held        []int64
	}{
		{2, []float32{0, 8}, []float32{8, 8}, 1, 8, nil},
		{1, []float32{0, 8}, []float32{8, 8}, 1, 8, nil},
		{2, []float32{0, 8}, []float32{4, 6}, 0.5, 4, nil},
		{2, []float32{0, 8}, []float32{12, 14}, 1.5, 12, nil},
		{3, []float32{0, 8, 4}, []float32{8, 8, 8}, 1, 8, nil},
		{4, []float32{0, 8, 4, 20}, []float32{8, 11, 14, 14}, 1, 10, nil},
		{2, []float32{0, 8, 4, 20}, []float32{6, 6, 6, 6}, 1, 14, nil},
		{2, []float32{0, 8, 4, 20}, []float32{0, 3, 3, 6}, 1, 14, []int64{0}},
		{2, []float32{0, 8, 4, 20}, []float32{6, 8, 6, 6}, 1, 14, []int64{1}},
		{2, []float32{0, 8, 4, 20}, []float32{0, 8, 4, 20}, 1, 0, []int64{0, 1, 2, 3}},
	} {
		p := holding(plateWith(c.wide, c.warms...), c.held...)
		want := holding(plateWith(c.wide, c.want...), c.held...)
		swept, most, ok := impl.SweepPlate(p, c.haste)
		wantText(t, "SweepPlate of "+tell(p), tell(swept, most, ok), tell(want, c.most, true))
	}
}

// TestP5GainsComeBehindTheSum checks in which order the heat of a sweep is added.
func TestP5GainsComeBehindTheSum(t *testing.T) {
	p := holding(plateWith(3, 1e8, 0, -1e8), 0, 2)
	p.Gains[1] = 3
	swept, most, ok := impl.SweepPlate(p, 1)
	wantText(t, "SweepPlate with a gain", tell(swept.Warms, most, ok), tell([]float32{1e8, 1.5, -1e8}, float32(1.5), true))
	p = holding(plateWith(3, 1e8, 0, 3, 0, 0, 0, 0, -1e8, 0), 0, 2, 7)
	p.Warms[1], p.Held[1] = 1e8, true
	p.Warms[3], p.Held[3] = 3, true
	p.Warms[5], p.Held[5] = -1e8, true
	p.Warms[7] = 1
	swept, _, _ = impl.SweepPlate(p, 1)
	wantText(t, "SweepPlate, from above to below", digits(swept.Warms[4]), digits(0.25))
}

// TestP5ChangesAreDifferences checks that the greatest change is told of the Warms as they are rounded.
func TestP5ChangesAreDifferences(t *testing.T) {
	p := holding(plateWith(2, 16777216, 16777219), 1)
	swept, most, ok := impl.SweepPlate(p, 0.25)
	wantText(t, "SweepPlate", tell(swept.Warms, most, ok), tell([]float32{16777216, 16777220}, float32(0), true))
	r := somewhere(41)
	for _, sides := range extents() {
		p := r.plate(sides[0], sides[1])
		swept, most, _ := impl.SweepPlate(p, 1.25)
		want := float32(0)
		for i, warm := range swept.Warms {
			want = max(want, warm-p.Warms[i], p.Warms[i]-warm)
		}
		wantText(t, "the greatest change", digits(most), digits(want))
	}
}

// TestP5ChangesThatAreTooGreatFail checks a sweep behind which all Warms are finite, but not the greatest change.
func TestP5ChangesThatAreTooGreatFail(t *testing.T) {
	const unit = 0x1p104
	p := holding(plateWith(2, -1.5*unit, 11184808*unit), 1)
	_, _, ok := impl.SweepPlate(p, 1.5)
	wantBool(t, "SweepPlate", ok, false)
	p.Warms[0] = -unit
	swept, most, ok := impl.SweepPlate(p, 1.5)
	wantText(t, "SweepPlate", tell(swept.Warms, most, ok), tell([]float32{16777213 * unit, 11184808 * unit}, float32(16777214*unit), true))
}

func TestP5WorkersMakeTheSame(t *testing.T) {
	r := somewhere(42)
	for _, sides := range extents() {
		for range 5 {
			p := r.plate(sides[0], sides[1])
			for _, haste := range []float32{0.1, 1, 1.9} {
				swept, most, ok := impl.SweepPlate(p, haste)
				for workers := int64(1); workers <= 8; workers++ {
					shared, same, all := impl.SweepShared(p, haste, workers)
					wantText(t, "SweepShared", tell(shared, same, all), tell(swept, most, ok))
				}
			}
		}
	}
	p := plateWith(2, 1, 2, 3, 4)
	for _, workers := range []int64{0, -1, 9, 1 << 32, math.MinInt64, math.MaxInt64} {
		_, _, ok := impl.SweepShared(p, 1, workers)
		wantBool(t, "SweepShared with "+impl.Decimal(workers)+" workers", ok, false)
	}
	wild := plateWith(2, 1, 2, 3, 4)
	wild.Eases[0] = num(greatest)
	for workers := int64(1); workers <= 8; workers++ {
		_, _, ok := impl.SweepShared(wild, 1, workers)
		wantBool(t, "SweepShared of what fails", ok, false)
	}
}

func TestP5HasteIsChecked(t *testing.T) {
	for _, c := range []struct {
		haste float32
		want  bool
	}{
		{num(leastBits), true}, {1, true}, {math.Nextafter32(2, 0), true}, {2, false}, {3, false}, {0, false}, {num(minusZero), false},
		{num(0x80000001), false}, {-1, false}, {num(plusInf), false}, {num(minusInf), false}, {num(nanBits), false},
	} {
		for _, p := range []impl.Plate{plateWith(2, 4, 4), plateWith(1, 5), holding(plateWith(2, 4, 4), 0, 1)} {
			_, _, ok := impl.SweepPlate(p, c.haste)
			wantBool(t, "SweepPlate with "+digits(c.haste), ok, c.want)
			_, _, ok = impl.SweepShared(p, c.haste, 2)
			wantBool(t, "SweepShared with "+digits(c.haste), ok, c.want)
			_, _, ok = impl.SolvePlate(p, c.haste, 1)
			wantBool(t, "SolvePlate with "+digits(c.haste), ok, c.want)
		}
	}
}

func TestP5NearIsChecked(t *testing.T) {
	for _, c := range []struct {
		near float32
		want bool
	}{
		{0, true}, {num(minusZero), true}, {num(leastBits), true}, {1, true}, {num(greatest), true},
		{num(0x80000001), false}, {-1, false}, {num(plusInf), false}, {num(minusInf), false}, {num(nanBits), false},
	} {
		for _, p := range []impl.Plate{plateWith(2, 4, 4), plateWith(1, 5), holding(plateWith(2, 4, 4), 0, 1)} {
			solved, sweeps, ok := impl.SolvePlate(p, 1, c.near)
			wantBool(t, "SolvePlate with "+digits(c.near), ok, c.want)
			if ok {
				wantText(t, "a plate at rest", tell(solved, sweeps), tell(p, int64(1)))
			}
		}
	}
}

// TestP5SolvedPlatesHaveNoMiss checks that plates are at rest at last, and that what they gain flows into held cells.
func TestP5SolvedPlatesHaveNoMiss(t *testing.T) {
	r := somewhere(43)
	for _, sides := range extents() {
		for range 8 {
			p := r.plate(sides[0], sides[1])
			p.Held[len(p.Held)/2] = true
			haste := r.number(1, 1.8)
			solved, sweeps, ok := impl.SolvePlate(p, haste, 1e-4)
			wantBool(t, "SolvePlate", ok && sweeps >= 1 && sweeps <= 400, true)
			miss, told := impl.MissOfPlate(solved)
			wantBool(t, "MissOfPlate", told, true)
			// All passes of a cell are at most 12.
			wantNear(t, "the miss of a plate that is solved", miss, 0, 12*1e-4/0.2)
			gain, _ := impl.GainOfPlate(solved)
			flow, _ := impl.HeldFlow(solved)
			wantNear(t, "what flows into held cells", flow, float64(gain), 0.01*float64(len(p.Held)))
			for i, held := range p.Held {
				if held {
					wantText(t, "a cell that is held", digits(solved.Warms[i]), digits(p.Warms[i]))
				}
			}
		}
	}
}

// TestP5SolvedPlatesAreSweptUntilNear checks how many sweeps are made.
func TestP5SolvedPlatesAreSweptUntilNear(t *testing.T) {
	r := somewhere(44)
	for range 20 {
		p := r.plate(r.whole(1, 5), r.whole(1, 5))
		p.Held[0] = true
		last := p
		var mosts []float32
		for range 12 {
			next, most, _ := impl.SweepPlate(last, 1.25)
			last = next
			mosts = append(mosts, most)
			if slices.Min(mosts) == most {
				solved, sweeps, ok := impl.SolvePlate(p, 1.25, most)
				first := int64(slices.Index(mosts, most)) + 1
				wantBool(t, "SolvePlate, as far as it is near", ok && sweeps == first, true)
				if first == int64(len(mosts)) {
					wantText(t, "SolvePlate", tell(solved), tell(last))
				}
			}
		}
	}
}

// TestP5SweepsAreLimited checks that the last sweep still counts, and that no more are made.
func TestP5SweepsAreLimited(t *testing.T) {
	p := holding(plateWith(12, slices.Repeat([]float32{0}, 144)...), 0, 143)
	p.Warms[143] = 1000
	last := p
	var mosts []float32
	for range 401 {
		next, most, ok := impl.SweepPlate(last, 0.5)
		wantBool(t, "SweepPlate", ok, true)
		last = next
		mosts = append(mosts, most)
	}
	wantBool(t, "the changes become less", slices.Min(mosts[:399]) > mosts[399] && mosts[399] > mosts[400], true)
	_, sweeps, ok := impl.SolvePlate(p, 0.5, mosts[399])
	wantBool(t, "SolvePlate with 400 sweeps", ok && sweeps == 400, true)
	_, sweeps, ok = impl.SolvePlate(p, 0.5, mosts[398])
	wantBool(t, "SolvePlate with 399 sweeps", ok && sweeps == 399, true)
	_, _, ok = impl.SolvePlate(p, 0.5, math.Nextafter32(mosts[399], 0))
	wantBool(t, "SolvePlate with 401 sweeps", ok, false)
}

// TestP5GainsWithoutHeldCells checks that a plate that always gains heat is never solved.
func TestP5GainsWithoutHeldCells(t *testing.T) {
	p := plateWith(2, 0, 0)
	p.Gains[1] = 1
	_, _, ok := impl.SolvePlate(p, 1, 0.5)
	wantBool(t, "SolvePlate", ok, false)
	_, sweeps, ok := impl.SolvePlate(p, 1, 1)
	wantBool(t, "SolvePlate, but nearly", ok && sweeps == 1, true)
}

func TestP5EvenPlatesStay(t *testing.T) {
	for _, sides := range extents() {
		p := plateWith(sides[0], slices.Repeat([]float32{-7}, int(sides[0]*sides[1]))...)
		swept, most, ok := impl.SweepPlate(p, 1.5)
		wantText(t, "SweepPlate", tell(swept, most, ok), tell(p, float32(0), true))
		r := somewhere(45)
		for i := range p.Eases {
			p.Eases[i] = r.number(0.2, 3)
		}
		stepped, ok := impl.StepPlate(p, 0.25)
		wantText(t, "StepPlate", tell(stepped, ok), tell(p, true))
		crossed, ok := impl.CrossPlate(p, 4)
		wantBool(t, "CrossPlate", ok, true)
		for _, warm := range crossed.Warms {
			wantNear(t, "CrossPlate", warm, -7, 1e-5)
		}
	}
}

func TestP5PlatesOfOneCell(t *testing.T) {
	for _, held := range []bool{false, true} {
		p := plateWith(1, 5)
		p.Eases[0], p.Gains[0], p.Held[0] = 2, 3, held
		gain, warm := float32(3), float32(6.5)
		if held {
			gain, warm = 0, 5
		}
		same := tell(p, float32(0), true)
		swept, most, ok := impl.SweepPlate(p, 1.5)
		wantText(t, "SweepPlate", tell(swept, most, ok), same)
		shared, most, ok := impl.SweepShared(p, 1.5, 8)
		wantText(t, "SweepShared", tell(shared, most, ok), same)
		solved, sweeps, ok := impl.SolvePlate(p, 1.5, 0)
		wantText(t, "SolvePlate", tell(solved, sweeps, ok), tell(p, int64(1), true))
		wantText(t, "MissOfPlate", toldNumber(impl.MissOfPlate(p)), toldNumber(gain, true))
		wantText(t, "HeldFlow", toldNumber(impl.HeldFlow(p)), toldNumber(0, true))
		wantText(t, "GainOfPlate", toldNumber(impl.GainOfPlate(p)), toldNumber(gain, true))
		wantText(t, "FlowInto", toldNumber(impl.FlowInto(p, 0)), toldNumber(0, true))
		wantText(t, "StepPlate", toldPlate(impl.StepPlate(p, 0.5)), toldNumber(warm, true))
		wantText(t, "CrossPlate", toldPlate(impl.CrossPlate(p, 0.5)), toldNumber(warm, true))
		flux, ok := impl.FluxAt(p, 0)
		wantText(t, "FluxAt", tell(flux, ok), tell(complex64(0), true))
		wantText(t, "EdgeCells", toldCells(impl.EdgeCells(p)), "0")
		wantText(t, "RimOf", toldCells(impl.RimOf(p, 5)), "")
		wantText(t, "CoolPath", toldCells(impl.CoolPath(p, 0)), "0")
		turned, ok := impl.TurnPlate(p)
		wantText(t, "TurnPlate", tell(turned, ok), tell(p, true))
		for _, k := range []int64{-1, 0, 1} {
			_, ok = impl.PassOfCells(p, 0, k)
			wantBool(t, "PassOfCells", ok, false)
		}
	}
}

func TestP5HeldPlatesStay(t *testing.T) {
	r := somewhere(46)
	for _, sides := range extents() {
		p := r.plate(sides[0], sides[1])
		sum := float32(0)
		for i := range p.Held {
			p.Held[i] = true
			flow, _ := impl.FlowInto(p, int64(i))
			sum += flow
		}
		solved, sweeps, ok := impl.SolvePlate(p, 1, 0)
		wantText(t, "SolvePlate", tell(solved, sweeps, ok), tell(p, int64(1), true))
		wantText(t, "MissOfPlate", toldNumber(impl.MissOfPlate(p)), toldNumber(0, true))
		wantText(t, "HeldFlow", toldNumber(impl.HeldFlow(p)), toldNumber(sum, true))
		wantText(t, "GainOfPlate", toldNumber(impl.GainOfPlate(p)), toldNumber(0, true))
		for _, cross := range []bool{false, true} {
			last, means, ok := impl.RunPlate(p, 4, 2, cross)
			mean, _ := impl.MeanOfPlate(p)
			wantText(t, "RunPlate", tell(last, means, ok), tell(p, []float32{mean, mean}, true))
		}
	}
}

// TestP5PassesMustBeFinite checks where it matters that too much passes between some neighbours.
func TestP5PassesMustBeFinite(t *testing.T) {
	wild := plateWith(3, 1, 2, 3, 4, 5, 6)
	wild.Eases[0], wild.Eases[1] = num(greatest), num(greatest)
	for _, c := range []struct {
		held        []int64
		miss, flows bool
	}{
		{nil, false, true},
		{[]int64{0, 1, 2, 3, 4, 5}, true, false},
		// Too much passes from 0 to 1 and to 3, and from 1 to 2 and to 4.
		{[]int64{0, 1, 2, 3, 4}, true, false},
		{[]int64{5}, false, true},
		{[]int64{0, 1, 2, 3}, false, false},
	} {
		p := holding(wild, c.held...)
		what := " of " + tell(p)
		_, _, ok := impl.SweepPlate(p, 1)
		wantBool(t, "SweepPlate"+what, ok, false)
		_, _, ok = impl.SweepShared(p, 1, 2)
		wantBool(t, "SweepShared"+what, ok, false)
		_, _, ok = impl.SolvePlate(p, 1, 1)
		wantBool(t, "SolvePlate"+what, ok, false)
		for tick, want := range map[float32]bool{0: c.miss, 0.01: c.miss} {
			_, ok = impl.StepPlate(p, tick)
			wantBool(t, "StepPlate"+what, ok, want)
			_, ok = impl.CrossPlate(p, tick+0.01)
			wantBool(t, "CrossPlate"+what, ok, false)
			_, _, ok = impl.RunPlate(p, tick, 1, false)
			wantBool(t, "RunPlate with steps"+what, ok, want)
			_, _, ok = impl.RunPlate(p, tick+0.01, 1, true)
			wantBool(t, "RunPlate with crosses"+what, ok, false)
			_, _, ok = impl.RunPlate(p, tick+0.01, 0, true)
			wantBool(t, "RunPlate with no ticks"+what, ok, true)
		}
		_, ok = impl.MissOfPlate(p)
		wantBool(t, "MissOfPlate"+what, ok, c.miss)
		_, ok = impl.HeldFlow(p)
		wantBool(t, "HeldFlow"+what, ok, c.flows)
		_, ok = impl.GainOfPlate(p)
		wantBool(t, "GainOfPlate"+what, ok, true)
	}
	for i, want := range []bool{false, false, false, false, false, true} {
		_, ok := impl.FlowInto(wild, int64(i))
		wantBool(t, "FlowInto", ok, want)
	}
}

// TestP5NothingPasses checks cells whose passes are all rounded to zero.
func TestP5NothingPasses(t *testing.T) {
	p := plateWith(2, 1, 2)
	p.Eases = []float32{num(leastBits), num(leastBits)}
	_, _, ok := impl.SweepPlate(p, 1)
	wantBool(t, "SweepPlate", ok, false)
	_, _, ok = impl.SweepPlate(holding(p, 0, 1), 1)
	wantBool(t, "SweepPlate of held cells", ok, true)
	crossed, ok := impl.CrossPlate(p, 1)
	wantText(t, "CrossPlate", tell(crossed, ok), tell(p, true))
}

func TestP5MissesAndGains(t *testing.T) {
	p := plateWith(3, 1, 2, 4, 8, 16, 32)
	p.Gains = []float32{1, 2, 4, -8, -16, 100}
	// The flows are 8, 15, 26, 1, -6 and -44.
	for _, c := range []struct {
		held       []int64
		miss, gain float32
		flow       float32
	}{
		{nil, 56, 83, 0},
		{[]int64{5}, 30, -17, -44},
		{[]int64{2, 5}, 22, -21, -18},
		{[]int64{2, 4, 5}, 17, -5, -24},
		{[]int64{0, 1, 2, 3, 5}, 22, -16, 6},
	} {
		h := holding(p, c.held...)
		wantText(t, "MissOfPlate", toldNumber(impl.MissOfPlate(h)), toldNumber(c.miss, true))
		wantText(t, "GainOfPlate", toldNumber(impl.GainOfPlate(h)), toldNumber(c.gain, true))
		wantText(t, "HeldFlow", toldNumber(impl.HeldFlow(h)), toldNumber(c.flow, true))
	}
	order := plateWith(3, 0, 0, 0)
	order.Gains = []float32{1e8, 3, -1e8}
	wantText(t, "GainOfPlate, in order", toldNumber(impl.GainOfPlate(order)), toldNumber(0, true))
	order.Gains = []float32{1e8, -1e8, 3}
	wantText(t, "GainOfPlate, in the other order", toldNumber(impl.GainOfPlate(order)), toldNumber(3, true))
	order.Gains = []float32{num(greatest), num(greatest), 1}
	wantText(t, "GainOfPlate of too much", toldNumber(impl.GainOfPlate(order)), "fail")
	wantText(t, "MissOfPlate of much", toldNumber(impl.MissOfPlate(order)), toldNumber(num(greatest), true))
	wantText(t, "GainOfPlate of held cells", toldNumber(impl.GainOfPlate(holding(order, 1))), toldNumber(num(greatest), true))
	order.Warms = []float32{1e38, 2e38, -1e38}
	wantText(t, "MissOfPlate of too much", toldNumber(impl.MissOfPlate(order)), "fail")
	order.Gains = []float32{num(minusZero), num(minusZero), num(minusZero)}
	wantText(t, "GainOfPlate of zeros", toldNumber(impl.GainOfPlate(order)), toldNumber(0, true))
}
