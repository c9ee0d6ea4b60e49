package tests

import (
	"math"
	"slices"
	"testing"

	"loop.example/g01309/impl"
)

// outcomesOfPlates calls all functions of chapter 4 that may fail.
func outcomesOfPlates(p impl.Plate, list []int64, x, y, tick float32, n int64) []outcome {
	return []outcome{
		{"PlainPlate", all(impl.PlainPlate(n, 2, x, y))},
		{"HoldCells", all(impl.HoldCells(p, list, x))},
		{"FreeCells", all(impl.FreeCells(p, list))},
		{"EaseCells", all(impl.EaseCells(p, list, y))},
		{"GainCells", all(impl.GainCells(p, list, x))},
		{"EdgeCells", all(impl.EdgeCells(p))},
		{"TurnPlate", all(impl.TurnPlate(p))},
		{"PassOfCells", all(impl.PassOfCells(p, n, 0))},
		{"FlowInto", all(impl.FlowInto(p, n))},
		{"SweepPlate", all(impl.SweepPlate(p, y))},
		{"SweepShared", all(impl.SweepShared(p, y, n))},
		{"SolvePlate", all(impl.SolvePlate(p, y, tick))},
		{"MissOfPlate", all(impl.MissOfPlate(p))},
		{"HeldFlow", all(impl.HeldFlow(p))},
		{"GainOfPlate", all(impl.GainOfPlate(p))},
		{"StepPlate", all(impl.StepPlate(p, tick))},
		{"CrossPlate", all(impl.CrossPlate(p, tick))},
		{"RunPlate with steps", all(impl.RunPlate(p, tick, n, false))},
		{"RunPlate with crosses", all(impl.RunPlate(p, tick, n, true))},
		{"MeanOfPlate", all(impl.MeanOfPlate(p))},
		{"RangeOfPlate", all(impl.RangeOfPlate(p))},
		{"FluxAt", all(impl.FluxAt(p, n))},
		{"RimOf", all(impl.RimOf(p, x))},
		{"IslandsOver", all(impl.IslandsOver(p, x))},
		{"CoolPath", all(impl.CoolPath(p, n))},
	}
}

func equal[T comparable](x, y T) bool { return x == y }

// plateWithRoom returns a copy of a plate with unused capacity, and a function
// that reports whether the copy and its unused capacity are still as they were.
func plateWithRoom(p impl.Plate) (impl.Plate, func() bool) {
	warms, sameWarms := withRoom(p.Warms, sameBits)
	eases, sameEases := withRoom(p.Eases, sameBits)
	gains, sameGains := withRoom(p.Gains, sameBits)
	flags, sameFlags := withRoom(p.Held, equal[bool])
	return impl.Plate{Wide: p.Wide, High: p.High, Warms: warms, Eases: eases, Gains: gains, Held: flags},
		func() bool { return sameWarms() && sameEases() && sameGains() && sameFlags() }
}

// checkPlates calls all functions twice, and checks what they return and that they leave the lists alone.
func checkPlates(t *testing.T, p impl.Plate, list []int64, x, y, tick float32, n int64) {
	t.Helper()
	one, samePlate := plateWithRoom(p)
	cells, sameCells := withRoom(list, equal[int64])
	first := outcomesOfPlates(one, cells, x, y, tick, n)
	for i, second := range outcomesOfPlates(one, cells, x, y, tick, n) {
		checkOutcome(t, second)
		if tell(first[i].values...) != tell(second.values...) {
			t.Errorf("%s: first %v, then %v", second.name, first[i].values, second.values)
		}
	}
	if impl.ValidPlate(one) != impl.ValidPlate(p) || !impl.SamePlate(one, p) || !impl.SamePlate(p, one) {
		t.Errorf("SamePlate or ValidPlate of %v has different results", p)
	}
	wantBool(t, "the lists are unchanged", samePlate() && sameCells(), true)
}

func TestP1PlatesOfAllNumbers(t *testing.T) {
	for i, x := range strangeNumbers() {
		for k, y := range strangeNumbers() {
			odd := plateWith(2, x, y, 1, y)
			odd.Gains[k%4] = x
			eased := holding(plateWith(3, 1, x, 3, 4, y, 6), int64(i%6))
			eased.Eases[i%6], eased.Eases[k%6] = x, y
			checkPlates(t, odd, []int64{1, 3}, x, y, 0.25, 1)
			checkPlates(t, eased, []int64{0}, y, 1.5, x, 2)
			checkPlates(t, plateWith(1, x), nil, y, x, y, 0)
			checkPlates(t, holding(plateWith(2, 4, 1, 2, 5), int64(k%4)), []int64{2}, x, y, x, int64(i%4))
		}
	}
}

func TestP1PlatesOfAllShapes(t *testing.T) {
	r := somewhere(61)
	for _, sides := range extents() {
		checkPlates(t, r.plate(sides[0], sides[1]), []int64{0}, 3, 1.5, 0.0625, 1)
	}
	for _, p := range invalidPlates() {
		checkPlates(t, p, []int64{0, 1}, 1, 1.5, 0.25, 1)
		checkPlates(t, p, nil, 1, 1.5, 0.25, 0)
	}
	checkPlates(t, plateWith(100, make([]float32, 10000)...), make([]int64, 5000), 1, 1.5, 0.25, 1)
	checkPlates(t, plateWith(2, 1, 2, 3, 4), make([]int64, 5000), 1, 1.5, 0.25, 1)
}

func TestP1PlatesWithAllIntegers(t *testing.T) {
	wholes := []int64{math.MinInt64, math.MinInt64 + 1, -1 << 32, -1, 0, 1, 2, 3, 4, 8, 9, 12, 13, 127, 128, 129, 1 << 31, 1 << 32, 1 << 62, math.MaxInt64}
	for _, n := range wholes {
		checkPlates(t, plateWith(2, 1, 2, 3, 4), []int64{n}, 1, 1.5, 0.25, n)
		for _, k := range wholes {
			checkPlates(t, plateWith(2, 1, 2, 3, 4), []int64{n, k}, 1, 1.5, 0.25, 1)
			p := plateWith(2, 1, 2, 3, 4)
			p.Wide, p.High = n, k
			checkPlates(t, p, []int64{0}, 1, 1.5, 0.25, 1)
			first, ok := impl.PassOfCells(plateWith(2, 1, 2, 3, 4), n, k)
			second, both := impl.PassOfCells(plateWith(2, 1, 2, 3, 4), n, k)
			wantText(t, "PassOfCells", tell(first, ok), tell(second, both))
		}
	}
}

// TestP1InvalidPlatesFail checks that no function takes an invalid plate.
func TestP1InvalidPlatesFail(t *testing.T) {
	for _, o := range outcomesOfPlates(holding(plateWith(2, 1, 2, 3, 4), 0), []int64{1, 2}, 1, 1.5, 0.25, 1) {
		wantBool(t, o.name+" of a valid plate", o.ok(), true)
	}
	for _, p := range invalidPlates() {
		for _, n := range []int64{0, 1} {
			for _, o := range outcomesOfPlates(p, nil, 1, 1.5, 0.25, n) {
				wantBool(t, o.name+" of "+tell(p), o.ok() && o.name != "PlainPlate", false)
			}
		}
	}
}

func TestP1EmptyListsOfPlatesAreNil(t *testing.T) {
	p := holding(plateWith(2, 1, 2, 3, 4), 0)
	empty := impl.Plate{Warms: []float32{}, Eases: []float32{}, Gains: []float32{}, Held: []bool{}}
	for i, o := range outcomesOfPlates(p, []int64{}, 1, 1.5, 0.25, 1) {
		wantText(t, o.name, tell(o.values...), tell(outcomesOfPlates(p, nil, 1, 1.5, 0.25, 1)[i].values...))
		nothing := outcomesOfPlates(impl.Plate{}, nil, 1, 1.5, 0.25, 1)[i]
		wantText(t, o.name+" of nothing", tell(outcomesOfPlates(empty, nil, 1, 1.5, 0.25, 1)[i].values...), tell(nothing.values...))
	}
	wantBool(t, "ValidPlate", impl.ValidPlate(empty) || impl.ValidPlate(impl.Plate{}), false)
	wantBool(t, "SamePlate", impl.SamePlate(empty, impl.Plate{}), true)
}

// overwrite changes all flags, indices, links, heaters, tracks, faces and lines
// that a call has returned, and what is behind them.
func overwrite(values []any) {
	for _, value := range values {
		switch x := value.(type) {
		case impl.Plate:
			flags := x.Held[:cap(x.Held)]
			for i := range flags {
				flags[i] = !flags[i]
			}
		case impl.House:
			links := x.Links[:cap(x.Links)]
			for i := range links {
				links[i] = impl.Link{A: -77}
			}
		case []impl.Heater:
			heaters := x[:cap(x)]
			for i := range heaters {
				heaters[i] = impl.Heater{Room: -77}
			}
		case impl.Track:
			overwrite([]any{x.Hundreds})
		case []impl.Track:
			for _, t := range x[:cap(x)] {
				overwrite([]any{t})
			}
		case impl.Desk:
			overwrite([]any{x.Faces, x.House})
		case []impl.Face:
			faces := x[:cap(x)]
			for i := range faces {
				faces[i] = impl.Face{Wide: -77}
			}
		case []string:
			lines := x[:cap(x)]
			for i := range lines {
				lines[i] = "changed"
			}
		case []int64:
			cells := x[:cap(x)]
			for i := range cells {
				cells[i] = -77
			}
		}
	}
}

func TestP1ResultsOfPlatesAreNew(t *testing.T) {
	for _, flags := range [][]int64{nil, {0, 3}, {0, 1, 2, 3, 4, 5}} {
		for _, list := range [][]int64{nil, {1}, {0, 2, 5}} {
			p, samePlate := plateWithRoom(holding(plateWith(3, 1, 2, 5, 4, 0, 3), flags...))
			cells, sameCells := withRoom(list, equal[int64])
			for _, n := range []int64{0, 1, 3} {
				calls := func() []outcome { return outcomesOfPlates(p, cells, 2, 1.5, 0.25, n) }
				for i, o := range calls() {
					wantNewLists(t, o.name, func() []any { return calls()[i].values })
					overwrite(calls()[i].values)
					wantBool(t, o.name+" returns new memory", samePlate() && sameCells(), true)
				}
			}
		}
	}
}

// TestP1SharedSweepsAreAllTheSame checks that it never matters which worker comes first.
func TestP1SharedSweepsAreAllTheSame(t *testing.T) {
	r := somewhere(62)
	p := r.plate(12, 12)
	first, most, ok := impl.SweepShared(p, 1.25, 8)
	want := tell(first, most, ok)
	var texts []string
	for range 300 {
		again, same, all := impl.SweepShared(p, 1.25, 8)
		texts = append(texts, tell(again, same, all))
	}
	wantBool(t, "SweepShared", slices.ContainsFunc(texts, func(text string) bool { return text != want }), false)
}
