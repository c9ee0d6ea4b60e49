package tests

import (
	"math"
	"slices"
	"strconv"
	"strings"
	"testing"

	"loop.example/g01309/impl"
)

// TestChapter4Examples asserts the examples at the end of chapter 4.
func TestChapter4Examples(t *testing.T) {
	two := plateWith(2, 0, 0)
	two.Eases = []float32{1, 3}
	wantText(t, "two neighbours", toldNumber(impl.PassOfCells(two, 0, 1)), toldNumber(1.5, true))

	three := holding(plateWith(3, 0, 9, 4), 0, 2)
	rest, _, ok := impl.SolvePlate(three, 1, 0)
	wantText(t, "three cells at last", toldPlate(rest, ok), told([]float32{0, 2, 4}, true))

	one := plateWith(1, 5)
	one.Gains[0] = 3
	for _, haste := range []float32{0.5, 1, 1.5} {
		swept, most, ok := impl.SweepPlate(one, haste)
		wantText(t, "a single cell", tell(swept, most, ok), tell(one, float32(0), true))
	}
}

func TestChapter4Limits(t *testing.T) {
	if impl.MaxSide != 12 || impl.MaxSweeps != 400 || impl.MaxCrew != 8 {
		t.Error("a constant is not as the chapter has it")
	}
}

func TestP5PlatesByTheirBits(t *testing.T) {
	for _, c := range plateCases {
		p, level := plateOf(c.plate), numbers(c.level)[0]
		haste, near, tick := numbers(c.haste)[0], numbers(c.near)[0], numbers(c.tick)[0]
		check := func(name, got, want string) {
			t.Helper()
			wantText(t, c.what+", "+name, got, want)
		}
		check("PassOfCells", toldOfAll(p, func(i int64) string {
			var words []string
			for _, k := range neighbours(p, i) {
				words = append(words, toldNumber(impl.PassOfCells(p, i, k)))
			}
			return strings.Join(words, " ")
		}), c.passes)
		check("FlowInto", toldOfAll(p, func(i int64) string { return toldNumber(impl.FlowInto(p, i)) }), c.flows)
		swept, most, ok := impl.SweepPlate(p, haste)
		check("SweepPlate", toldPlate(swept, ok), c.sweep)
		check("SweepPlate, the greatest change", toldNumber(most, ok), c.most)
		solved, sweeps, ok := impl.SolvePlate(p, haste, near)
		check("SolvePlate", toldSolved(solved, sweeps, ok), c.solved)
		check("MissOfPlate", toldNumber(impl.MissOfPlate(p)), c.miss)
		check("HeldFlow", toldNumber(impl.HeldFlow(p)), c.heldFlow)
		check("GainOfPlate", toldNumber(impl.GainOfPlate(p)), c.gain)
		check("StepPlate", toldPlate(impl.StepPlate(p, tick)), c.step)
		check("CrossPlate", toldPlate(impl.CrossPlate(p, tick)), c.cross)
		check("RunPlate with steps", toldRun(impl.RunPlate(p, tick, 3, false)), c.steps)
		check("RunPlate with crosses", toldRun(impl.RunPlate(p, tick, 3, true)), c.crosses)
		check("MeanOfPlate", toldNumber(impl.MeanOfPlate(p)), c.mean)
		least, greatest, ok := impl.RangeOfPlate(p)
		check("RangeOfPlate", told([]float32{least, greatest}, ok), c.least+","+c.greatest)
		check("FluxAt", toldOfAll(p, func(i int64) string {
			flux, ok := impl.FluxAt(p, i)
			return toldComplex([]complex64{flux}, ok)
		}), c.fluxes)
		check("RimOf", toldCells(impl.RimOf(p, level)), c.rim)
		islands, largest, ok := impl.IslandsOver(p, level)
		check("IslandsOver", toldCells([]int64{islands, largest}, ok), c.islands)
		check("CoolPath", toldOfAll(p, func(i int64) string { return toldCells(impl.CoolPath(p, i)) }), c.paths)
	}
}

func toldSolved(p impl.Plate, sweeps int64, ok bool) string {
	if !ok {
		return "fail"
	}
	return strconv.FormatInt(sweeps, 10) + " " + toldPlate(p, ok)
}

func toldRun(p impl.Plate, means []float32, ok bool) string {
	if !ok {
		return "fail"
	}
	return toldPlate(p, ok) + ";" + told(means, ok)
}

// TestP5OnlyWarmsChange checks that a plate behind a sweep or a tick has the extent, the Eases, the Gains and the Held as before.
func TestP5OnlyWarmsChange(t *testing.T) {
	r := somewhere(31)
	for _, sides := range extents() {
		p := r.plate(sides[0], sides[1])
		swept, _, _ := impl.SweepPlate(p, 1.5)
		shared, _, _ := impl.SweepShared(p, 1.5, 3)
		solved, _, _ := impl.SolvePlate(p, 1.5, 100)
		stepped, _ := impl.StepPlate(p, 0.01)
		crossed, _ := impl.CrossPlate(p, 0.5)
		ran, _, _ := impl.RunPlate(p, 0.01, 3, false)
		for k, other := range []impl.Plate{swept, shared, solved, stepped, crossed, ran} {
			other.Warms = p.Warms
			wantText(t, "all but the Warms of plate "+strconv.Itoa(k), tell(other), tell(p))
		}
	}
}

func TestP5ValidPlates(t *testing.T) {
	for _, sides := range extents() {
		count := int(sides[0] * sides[1])
		p := plateWith(sides[0], make([]float32, count)...)
		wantBool(t, "ValidPlate", impl.ValidPlate(p), true)
		for _, bits := range []uint32{leastBits, leastNormal, oneBits, greatest} {
			x := num(bits)
			p.Warms[count-1], p.Eases[count-1], p.Gains[count-1], p.Held[count-1] = -x, x, -x, true
			wantBool(t, "ValidPlate with "+hex(bits), impl.ValidPlate(p), true)
		}
	}
	for _, p := range invalidPlates() {
		wantBool(t, "ValidPlate of "+tell(p), impl.ValidPlate(p), false)
	}
}

func TestP5SamePlates(t *testing.T) {
	for _, x := range strangeNumbers() {
		for _, y := range strangeNumbers() {
			for part := range 3 {
				a, b := plateWith(2, 1, 2), plateWith(2, 1, 2)
				for k, p := range []impl.Plate{a, b} {
					[][]float32{p.Warms, p.Eases, p.Gains}[part][1] = []float32{x, y}[k]
				}
				wantBool(t, "SamePlate with "+digits(x)+" and "+digits(y), impl.SamePlate(a, b), bitsOf(x) == bitsOf(y))
			}
		}
	}
	p := plateWith(2, 1, 2, 3, 4)
	wantBool(t, "SamePlate of equal plates", impl.SamePlate(p, plateWith(2, 1, 2, 3, 4)), true)
	wantBool(t, "SamePlate of nothing", impl.SamePlate(impl.Plate{}, impl.Plate{Warms: []float32{}, Held: []bool{}}), true)
	for i := range int64(4) {
		wantBool(t, "SamePlate with a cell that is held", impl.SamePlate(p, holding(p, i)) || impl.SamePlate(holding(p, i), p), false)
	}
	wide, high, short, long := p, p, p, p
	wide.Wide, high.High = 4, 1
	short.Gains, long.Held = make([]float32, 3), make([]bool, 5)
	for _, other := range []impl.Plate{wide, high, short, long, plateWith(1, 1, 2, 3, 4), plateWith(4, 1, 2, 3, 4)} {
		wantBool(t, "SamePlate with "+tell(other), impl.SamePlate(p, other) || impl.SamePlate(other, p), false)
		wantBool(t, "SamePlate with itself, "+tell(other), impl.SamePlate(other, other), true)
	}
}

func TestP5PlainPlates(t *testing.T) {
	for _, sides := range extents() {
		p, ok := impl.PlainPlate(sides[0], sides[1], -3, 2)
		want := plateWith(sides[0], slices.Repeat([]float32{-3}, int(sides[0]*sides[1]))...)
		for i := range want.Eases {
			want.Eases[i] = 2
		}
		wantText(t, "PlainPlate", tell(p, ok), tell(want, true))
	}
	for _, side := range []int64{0, -1, 13, 1 << 32, math.MinInt64, math.MaxInt64} {
		for _, sides := range [][2]int64{{side, 1}, {1, side}, {side, side}, {side, 12}} {
			_, ok := impl.PlainPlate(sides[0], sides[1], 1, 1)
			wantBool(t, "PlainPlate of "+tell(sides[0], sides[1]), ok, false)
		}
	}
	for _, bits := range []uint32{plusZero, minusZero, 0x80000001, bitsOf(-1), plusInf, minusInf, nanBits} {
		_, ok := impl.PlainPlate(2, 2, 1, num(bits))
		wantBool(t, "PlainPlate with the ease "+hex(bits), ok, false)
		_, ok = impl.PlainPlate(2, 2, num(bits), 1)
		wantBool(t, "PlainPlate as warm as "+hex(bits), ok, num(bits)-num(bits) == 0)
	}
}

// changesOfCells changes a set of cells of a plate in all four ways.
func changesOfCells(p impl.Plate, list []int64, x float32) []outcome {
	return []outcome{
		{"HoldCells", all(impl.HoldCells(p, list, x))},
		{"FreeCells", all(impl.FreeCells(p, list))},
		{"EaseCells", all(impl.EaseCells(p, list, x))},
		{"GainCells", all(impl.GainCells(p, list, x))},
	}
}

func TestP5CellsAreChanged(t *testing.T) {
	r := somewhere(32)
	for _, sides := range extents() {
		p := r.plate(sides[0], sides[1])
		var some, every []int64
		for i := range int64(len(p.Warms)) {
			every = append(every, i)
			if r.number(0, 1) < 0.5 {
				some = append(some, i)
			}
		}
		for _, list := range [][]int64{nil, {0}, {int64(len(p.Warms)) - 1}, some, every} {
			heldOnes, freed, eased, gaining := plateOf(textOf(p)), plateOf(textOf(p)), plateOf(textOf(p)), plateOf(textOf(p))
			for _, i := range list {
				heldOnes.Warms[i], heldOnes.Held[i] = 7, true
				freed.Held[i] = false
				eased.Eases[i] = 7
				gaining.Gains[i] = 7
			}
			for k, o := range changesOfCells(p, list, 7) {
				want := []impl.Plate{heldOnes, freed, eased, gaining}[k]
				wantText(t, o.name, tell(o.values...), tell(want, true))
			}
		}
	}
}

// textOf writes a plate as plateOf reads it.
func textOf(p impl.Plate) string {
	var flags strings.Builder
	for _, held := range p.Held {
		flags.WriteString(map[bool]string{false: "0", true: "1"}[held])
	}
	return strconv.FormatInt(p.Wide, 10) + " " + strconv.FormatInt(p.High, 10) + ";" + told(p.Warms, true) + ";" +
		told(p.Eases, true) + ";" + told(p.Gains, true) + ";" + flags.String()
}

func TestP5SetsOfCellsAreChecked(t *testing.T) {
	p := plateWith(3, 1, 2, 3, 4, 5, 6)
	for _, list := range [][]int64{{-1}, {6}, {0, 6}, {-1, 0}, {1, 1}, {2, 1}, {0, 2, 2}, {0, 5, 4}, {math.MinInt64}, {math.MaxInt64}, {0, 1, 2, 3, 4, 5, 6}, {0, 1 << 32}} {
		for _, o := range changesOfCells(p, list, 7) {
			wantBool(t, o.name+" of "+tell(list), o.ok(), false)
		}
	}
	for _, bits := range []uint32{plusZero, minusZero, leastBits, 0x80000001, bitsOf(-1), oneBits, greatest, plusInf, minusInf, nanBits} {
		for _, list := range [][]int64{nil, {}, {0}, {1, 4}} {
			x := num(bits)
			finite := x-x == 0
			for k, o := range changesOfCells(p, list, x) {
				wantBool(t, o.name+" with "+hex(bits), o.ok(), []bool{finite, true, finite && x > 0, finite}[k])
			}
		}
	}
}

func TestP5EdgesOfPlates(t *testing.T) {
	for _, sides := range extents() {
		p := plateWith(sides[0], make([]float32, sides[0]*sides[1])...)
		var want []int64
		for i := range int64(len(p.Warms)) {
			if len(neighbours(p, i)) < 4 {
				want = append(want, i)
			}
		}
		wantText(t, "EdgeCells", toldCells(impl.EdgeCells(p)), toldCells(want, true))
	}
	wantText(t, "EdgeCells of 4 by 3", toldCells(impl.EdgeCells(plateWith(4, make([]float32, 12)...))), "0 1 2 3 4 7 8 9 10 11")
	wantText(t, "EdgeCells of one", toldCells(impl.EdgeCells(plateWith(1, 5))), "0")
}

func TestP5TurnedPlates(t *testing.T) {
	p := plateWith(3, 1, 2, 3, 4, 5, 6)
	p.Eases = []float32{11, 12, 13, 14, 15, 16}
	p.Gains = []float32{21, 22, 23, 24, 25, 26}
	p = holding(p, 0, 5)
	want := plateWith(2, 4, 1, 5, 2, 6, 3)
	want.Eases = []float32{14, 11, 15, 12, 16, 13}
	want.Gains = []float32{24, 21, 25, 22, 26, 23}
	want = holding(want, 1, 4)
	turned, ok := impl.TurnPlate(p)
	wantText(t, "TurnPlate", tell(turned, ok), tell(want, true))

	r := somewhere(33)
	for _, sides := range extents() {
		p := r.plate(sides[0], sides[1])
		turned := p
		for range 4 {
			other, ok := impl.TurnPlate(turned)
			wantBool(t, "TurnPlate", ok && other.Wide == turned.High && other.High == turned.Wide, true)
			turned = other
		}
		wantText(t, "a plate that is turned four times", tell(turned), tell(p))
	}
}

func TestP5PassesBetweenNeighbours(t *testing.T) {
	r := somewhere(34)
	for _, sides := range extents() {
		p := r.plate(sides[0], sides[1])
		for i := int64(-1); i <= int64(len(p.Warms)); i++ {
			for k := int64(-13); k <= int64(len(p.Warms))+12; k++ {
				pass, ok := impl.PassOfCells(p, i, k)
				if want := i >= 0 && i < int64(len(p.Warms)) && slices.Contains(neighbours(p, i), k); ok != want {
					t.Errorf("PassOfCells %d and %d of %v: got %v", i, k, sides, ok)
				} else if ok {
					a, b := float64(p.Eases[i]), float64(p.Eases[k])
					wantNear(t, "PassOfCells", pass, 2*a*b/(a+b), 1e-6)
				}
			}
		}
	}
	for _, i := range []int64{math.MinInt64, math.MaxInt64, 1 << 32} {
		for _, k := range []int64{i, i + 1, i - 1, 0} {
			_, ok := impl.PassOfCells(plateWith(2, 1, 2, 3, 4), i, k)
			_, other := impl.PassOfCells(plateWith(2, 1, 2, 3, 4), k, i)
			wantBool(t, "PassOfCells of "+tell(i, k), ok || other, false)
		}
	}
}

// TestP5PassesAreProductsFirst checks that both Eases are multiplied with each other first, and only then with 2.
func TestP5PassesAreProductsFirst(t *testing.T) {
	for _, c := range []struct{ one, other, want string }{
		{"7f000000", "3e800000", "3f000000"}, // 2 times the Ease is too great
		{"7f000000", "3f800000", "fail"},     // 2 times the product is too great
		{"7f7fffff", "7f7fffff", "fail"},
		{"1a000001", "1a000001", "1a7ffffe"}, // the product is subnormal, and rounded to twice as much
		{"00000001", "00000001", "00000000"},
		{"00000001", "7f7fffff", "00000002"},
	} {
		p := plateWith(2, 1, 2)
		p.Eases = []float32{numbers(c.one)[0], numbers(c.other)[0]}
		wantText(t, "PassOfCells with "+c.one+" and "+c.other, toldNumber(impl.PassOfCells(p, 0, 1)), c.want)
		wantText(t, "PassOfCells with "+c.other+" and "+c.one, toldNumber(impl.PassOfCells(p, 1, 0)), c.want)
	}
}

func TestP5FlowsIntoCells(t *testing.T) {
	p := plateWith(3, 1, 2, 4, 8, 16, 32)
	for i, want := range []float32{1 + 7, -1 + 2 + 14, -2 + 28, -7 + 8, -14 - 8 + 16, -28 - 16} {
		wantText(t, "FlowInto", toldNumber(impl.FlowInto(p, int64(i))), toldNumber(want, true))
	}
	wantText(t, "FlowInto a single cell", toldNumber(impl.FlowInto(plateWith(1, 5), 0)), toldNumber(0, true))
	for _, i := range []int64{-1, 6, 7, 1 << 32, math.MinInt64, math.MaxInt64} {
		wantText(t, "FlowInto "+tell(i), toldNumber(impl.FlowInto(p, i)), "fail")
	}
	// The sum begins with the cell above: in another order the small flow would be left.
	order := plateWith(3, 0, 1e8, 0, 3, 0, -1e8, 0, 0, 0)
	wantText(t, "FlowInto, in order", toldNumber(impl.FlowInto(order, 4)), toldNumber(0, true))
	order = plateWith(3, 0, 1e8, 0, -1e8, 0, 3, 0, 0, 0)
	wantText(t, "FlowInto, in the other order", toldNumber(impl.FlowInto(order, 4)), toldNumber(3, true))
	order = plateWith(3, 0, 0, 0, 0, 0, 3, 0, 1e8, 0)
	wantText(t, "FlowInto, rounded", toldNumber(impl.FlowInto(order, 4)), toldNumber(1e8, true))
}

// TestP5FlowsAreLostElsewhere checks that all that flows into cells comes from others.
func TestP5FlowsAreLostElsewhere(t *testing.T) {
	r := somewhere(35)
	for _, sides := range extents() {
		p := r.plate(sides[0], sides[1])
		sum, size := 0.0, 1.0
		for i := range p.Warms {
			flow, _ := impl.FlowInto(p, int64(i))
			sum += float64(flow)
			size += math.Abs(float64(flow))
		}
		wantNear(t, "the sum of FlowInto", float32(sum), 0, 1e-6*size)
		held, _ := impl.HeldFlow(p)
		free := holding(p)
		for i := range free.Held {
			free.Held[i] = !p.Held[i]
		}
		others, _ := impl.HeldFlow(free)
		wantNear(t, "HeldFlow of both halves", held+others, 0, 1e-5*size)
	}
}
