package tests

import (
	"math"
	"slices"
	"testing"

	"loop.example/g01309/impl"
)

func TestP5StepsOfPlates(t *testing.T) {
	p := holding(plateWith(3, 1, 2, 4, 8, 16, 32), 1)
	p.Gains = []float32{0, 5, 2, 0, 0, 4}
	// The flows are 8, 15, 26, 1, -6 and -44.
	want := []float32{1 + 2, 2, 4 + 7, 8 + 0.25, 16 - 1.5, 32 - 10}
	wantText(t, "StepPlate", toldPlate(impl.StepPlate(p, 0.25)), told(want, true))
	wantText(t, "StepPlate with the tick 0", toldPlate(impl.StepPlate(p, 0)), told(p.Warms, true))
}

func TestP5CrossesOfPlates(t *testing.T) {
	for _, c := range []struct {
		wide        int64
		warms, want []float32
		held        []int64
		gain        float32
	}{
		// Along a line of two free cells 1.5 and -0.5 are solved; beside it half of the difference goes over.
		{2, []float32{0, 4}, []float32{2, 2}, nil, 0},
		{1, []float32{0, 4}, []float32{2, 2}, nil, 0},
		{2, []float32{0, 4}, []float32{4, 4}, nil, 2},
		{1, []float32{0, 4}, []float32{4, 4}, nil, 2},
		// Along the line -1 becomes 1, and then 3; beside it -1 becomes 2, and then 3.
		{2, []float32{-1, 5}, []float32{3, 5}, []int64{1}, 0},
		{2, []float32{5, -1}, []float32{5, 3}, []int64{0}, 0},
		{1, []float32{-1, 5}, []float32{3, 5}, []int64{1}, 0},
		{1, []float32{5, -1}, []float32{5, 3}, []int64{0}, 0},
		{2, []float32{3, 5}, []float32{3, 5}, []int64{0, 1}, 7},
		{1, []float32{3, 5}, []float32{3, 5}, []int64{0, 1}, 7},
		{2, []float32{0, 0, 0, 16}, []float32{4, 4, 4, 4}, nil, 0},
		{2, []float32{16, 0, 0, 0}, []float32{4, 4, 4, 4}, nil, 0},
		// Along the rows 8 becomes 10, and then 12.
		{2, []float32{8, 16, 8, 16}, []float32{12, 16, 12, 16}, []int64{1, 3}, -2},
	} {
		p := holding(plateWith(c.wide, c.warms...), c.held...)
		for i := range p.Gains {
			p.Gains[i] = c.gain
		}
		crossed, ok := impl.CrossPlate(p, 1)
		wantBool(t, "CrossPlate of "+tell(p), ok, true)
		if !ok {
			continue
		}
		for i, warm := range crossed.Warms {
			wantNear(t, "CrossPlate of "+tell(p), warm, float64(c.want[i]), 1e-5)
		}
	}
}

// crossedByHand solves both halves of CrossPlate with 64-bit numbers, by going
// over all cells again and again.
func crossedByHand(p impl.Plate, tick float64) []float64 {
	warms := make([]float64, len(p.Warms))
	for i, warm := range p.Warms {
		warms[i] = float64(warm)
	}
	for _, rows := range []bool{true, false} {
		old, next := warms, slices.Clone(warms)
		for range 2000 {
			for i := range next {
				if p.Held[i] {
					continue
				}
				right, at := old[i]+tick/2*float64(p.Gains[i]), 1.0
				for _, k := range neighbours(p, int64(i)) {
					one, other := float64(p.Eases[i]), float64(p.Eases[k])
					pass := 2 * one * other / (one + other)
					if along := k == int64(i)-1 || k == int64(i)+1; p.Wide > 1 && along == rows || p.Wide == 1 && !rows {
						right += tick / 2 * pass * next[k]
						at += tick / 2 * pass
					} else {
						right += tick / 2 * pass * (old[k] - old[i])
					}
				}
				next[i] = right / at
			}
		}
		warms = next
	}
	return warms
}

func TestP5CrossesSolveRowsAndColumns(t *testing.T) {
	r := somewhere(51)
	for _, sides := range extents() {
		for _, tick := range []float32{0.01, 0.5, 2} {
			p := r.plate(sides[0], sides[1])
			crossed, ok := impl.CrossPlate(p, tick)
			wantBool(t, "CrossPlate", ok, true)
			for i, want := range crossedByHand(p, float64(tick)) {
				wantNear(t, "CrossPlate", crossed.Warms[i], want, 1e-4*(1+math.Abs(want)))
			}
		}
	}
}

// TestP5TicksKeepHeat checks that a plate without held cells has all of its heat, and what it gains, behind a tick.
func TestP5TicksKeepHeat(t *testing.T) {
	r := somewhere(52)
	for _, sides := range extents() {
		p := holding(r.plate(sides[0], sides[1]))
		before, size := 0.0, 1.0
		for i, warm := range p.Warms {
			before += float64(warm) + 0.0625*float64(p.Gains[i])
			size += math.Abs(float64(warm))
		}
		for _, next := range []func(p impl.Plate, tick float32) (impl.Plate, bool){impl.StepPlate, impl.CrossPlate} {
			last, ok := next(p, 0.0625)
			wantBool(t, "a tick", ok, true)
			after := 0.0
			for _, warm := range last.Warms {
				after += float64(warm)
			}
			wantNear(t, "the heat behind a tick", float32(after-before), 0, 1e-5*size)
		}
	}
}

// TestP5SolvedPlatesStay checks that ticks change nothing, nearly, where sweeps do not.
func TestP5SolvedPlatesStay(t *testing.T) {
	r := somewhere(53)
	for _, sides := range extents() {
		p := r.plate(sides[0], sides[1])
		p.Held[0] = true
		solved, _, ok := impl.SolvePlate(p, 1.5, 1e-4)
		wantBool(t, "SolvePlate", ok, true)
		for _, cross := range []bool{false, true} {
			last, means, ok := impl.RunPlate(solved, 0.0625, 5, cross)
			wantBool(t, "RunPlate", ok && len(means) == 5, true)
			for i, warm := range last.Warms {
				wantNear(t, "the warmth behind ticks", warm, float64(solved.Warms[i]), 5e-3)
			}
		}
		// Long ticks in both directions lead to the same rest.
		crossed, _, ok := impl.RunPlate(p, 2, 128, true)
		wantBool(t, "RunPlate", ok, true)
		again, _, ok := impl.SolvePlate(crossed, 1.5, 1e-4)
		wantBool(t, "SolvePlate behind ticks", ok, true)
		for i, warm := range again.Warms {
			wantNear(t, "the warmth at last", warm, float64(solved.Warms[i]), 0.05)
		}
	}
}

func TestP5TicksOfPlatesAreChecked(t *testing.T) {
	p := plateWith(2, 1, 2, 3, 4)
	for _, c := range []struct {
		tick        float32
		step, cross bool
	}{
		{0.125, true, true}, {100, true, true}, {num(leastBits), true, true}, {0, true, false}, {num(minusZero), true, false},
		{num(0x80000001), false, false}, {-1, false, false}, {num(plusInf), false, false}, {num(minusInf), false, false}, {num(nanBits), false, false},
	} {
		for _, q := range []impl.Plate{p, holding(p, 0, 1, 2, 3), plateWith(1, 5)} {
			_, ok := impl.StepPlate(q, c.tick)
			wantBool(t, "StepPlate with "+digits(c.tick), ok, c.step)
			_, ok = impl.CrossPlate(q, c.tick)
			wantBool(t, "CrossPlate with "+digits(c.tick), ok, c.cross)
			for _, ticks := range []int64{0, 1} {
				_, _, ok = impl.RunPlate(q, c.tick, ticks, false)
				wantBool(t, "RunPlate with steps of "+digits(c.tick), ok, c.step)
				_, _, ok = impl.RunPlate(q, c.tick, ticks, true)
				wantBool(t, "RunPlate with crosses of "+digits(c.tick), ok, c.cross)
			}
		}
	}
}

func TestP5RunsOfPlatesAreTicksOneAfterAnother(t *testing.T) {
	r := somewhere(54)
	for _, sides := range extents() {
		for _, cross := range []bool{false, true} {
			p := r.plate(sides[0], sides[1])
			next := impl.StepPlate
			if cross {
				next = impl.CrossPlate
			}
			last := p
			var means []float32
			for ticks := range int64(6) {
				got, list, ok := impl.RunPlate(p, 0.125, ticks, cross)
				wantText(t, "RunPlate", tell(got, list, ok), tell(last, means, true))
				last, _ = next(last, 0.125)
				mean, _ := impl.MeanOfPlate(last)
				means = append(means, mean)
			}
		}
	}
	p := holding(plateWith(2, 0, 4, 1, 3), 0)
	for _, cross := range []bool{false, true} {
		_, means, ok := impl.RunPlate(p, 0.125, 128, cross)
		wantBool(t, "RunPlate with 128 ticks", ok && len(means) == 128, true)
		for _, ticks := range []int64{129, -1, 1 << 32, math.MinInt64, math.MaxInt64} {
			_, _, ok = impl.RunPlate(p, 0.125, ticks, cross)
			wantBool(t, "RunPlate with "+impl.Decimal(ticks)+" ticks", ok, false)
		}
	}
}

// TestP5TicksThatAreTooWarmFail checks ticks behind which a plate is not valid.
func TestP5TicksThatAreTooWarmFail(t *testing.T) {
	p := plateWith(2, 0, 1)
	p.Gains[1] = num(greatest)
	for _, tick := range []float32{2, 1e30} {
		_, ok := impl.StepPlate(p, tick)
		wantBool(t, "StepPlate", ok, false)
		_, ok = impl.CrossPlate(p, 2*tick)
		wantBool(t, "CrossPlate", ok, false)
	}
	_, ok := impl.StepPlate(p, 0.5)
	wantBool(t, "StepPlate with a short tick", ok, true)
	// A mean behind a tick that is not finite: both cells are, but not their sum.
	hot := holding(plateWith(2, num(greatest), num(greatest)), 0, 1)
	for _, cross := range []bool{false, true} {
		_, _, ok = impl.RunPlate(hot, 1, 0, cross)
		wantBool(t, "RunPlate with no ticks", ok, true)
		_, _, ok = impl.RunPlate(hot, 1, 1, cross)
		wantBool(t, "RunPlate with one tick", ok, false)
	}
	// What flows in the first half is finite, but the plate that it makes is not.
	half := holding(plateWith(1, 3e38, -3e38), 0)
	_, ok = impl.CrossPlate(half, 1)
	wantBool(t, "CrossPlate, in between", ok, false)
}
