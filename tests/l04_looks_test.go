package tests

import (
	"math"
	"slices"
	"strings"
	"testing"

	"loop.example/g01309/impl"
)

func TestP5MeansAndRanges(t *testing.T) {
	p := plateWith(3, 5, 1, 5, 4, 0, 3)
	wantText(t, "MeanOfPlate", toldNumber(impl.MeanOfPlate(p)), toldNumber(3, true))
	least, greatestOne, ok := impl.RangeOfPlate(p)
	wantText(t, "RangeOfPlate", tell(least, greatestOne, ok), tell(float32(0), float32(5), true))
	wantText(t, "MeanOfPlate, in order", toldNumber(impl.MeanOfPlate(plateWith(3, 1e8, 3, -1e8))), toldNumber(0, true))
	wantText(t, "MeanOfPlate, in the other order", toldNumber(impl.MeanOfPlate(plateWith(3, 1e8, -1e8, 3))), toldNumber(1, true))
	wantText(t, "MeanOfPlate of too much", toldNumber(impl.MeanOfPlate(plateWith(2, num(greatest), num(greatest)))), "fail")
	wantText(t, "MeanOfPlate of -0", toldNumber(impl.MeanOfPlate(plateWith(1, num(minusZero)))), toldNumber(0, true))
	// Both zeros are equal, so the first one is returned.
	for _, bits := range [][]uint32{{plusZero, minusZero}, {minusZero, plusZero}, {minusZero, minusZero, plusZero}, {plusZero, minusZero, plusZero}} {
		var warms []float32
		for _, b := range bits {
			warms = append(warms, num(b))
		}
		least, greatestOne, _ := impl.RangeOfPlate(plateWith(1, warms...))
		wantBits(t, "the least zero", least, bits[0])
		wantBits(t, "the greatest zero", greatestOne, bits[0])
		least, _, _ = impl.RangeOfPlate(plateWith(1, append([]float32{1}, warms...)...))
		wantBits(t, "the least zero below 1", least, bits[0])
		_, greatestOne, _ = impl.RangeOfPlate(plateWith(1, append([]float32{-1}, warms...)...))
		wantBits(t, "the greatest zero above -1", greatestOne, bits[0])
	}
	least, greatestOne, ok = impl.RangeOfPlate(plateWith(1, num(greatest), num(0xff7fffff)))
	wantText(t, "RangeOfPlate of the greatest numbers", tell(least, greatestOne, ok), tell(num(0xff7fffff), num(greatest), true))
}

func TestP5Fluxes(t *testing.T) {
	p := plateWith(3, 1, 2, 4, 8, 16, 32, 64, 128, 256)
	p.Eases = []float32{1, 2, 1, 1, 4, 1, 1, 1, 0.5}
	for i, want := range []complex64{
		complex(-1, -7), complex(-3, -28), complex(-2, -28),
		complex(-8, -31.5), complex(-48, -252), complex(-16, -126),
		complex(-64, -56), complex(-96, -112), complex(-64, -112),
	} {
		flux, ok := impl.FluxAt(p, int64(i))
		wantText(t, "FluxAt", tell(flux, ok), tell(want, true))
	}
	row, column := plateWith(3, 1, 2, 4), plateWith(1, 1, 2, 4)
	for i, want := range []float32{-1, -1.5, -2} {
		flux, ok := impl.FluxAt(row, int64(i))
		wantText(t, "FluxAt in a row", tell(flux, ok), tell(complex(want, 0), true))
		flux, ok = impl.FluxAt(column, int64(i))
		wantText(t, "FluxAt in a column", tell(flux, ok), tell(complex(0, want), true))
	}
	// Equal neighbours make -0, the opposite of +0, but where there are none it is +0.
	flux, _ := impl.FluxAt(plateWith(3, 7, 1, 7), 1)
	wantParts(t, "FluxAt between equal neighbours", flux, minusZero, plusZero)
	flux, _ = impl.FluxAt(plateWith(1, 7, 1, 7), 1)
	wantParts(t, "FluxAt between equal neighbours in a column", flux, plusZero, minusZero)
	for _, i := range []int64{-1, 9, 1 << 32, math.MinInt64, math.MaxInt64} {
		_, ok := impl.FluxAt(p, i)
		wantBool(t, "FluxAt "+tell(i), ok, false)
	}
	for _, wide := range []int64{1, 2} {
		_, ok := impl.FluxAt(plateWith(wide, num(greatest), num(0xff7fffff)), 0)
		wantBool(t, "FluxAt of too much", ok, false)
	}
	// The quotient comes first, so that the product is finite.
	large := plateWith(3, 0, 0, 2)
	large.Eases[1] = num(greatest)
	flux, ok := impl.FluxAt(large, 1)
	wantText(t, "FluxAt of much", tell(flux, ok), tell(complex(-num(greatest), 0), true))
}

func TestP5Rims(t *testing.T) {
	p := plateWith(4,
		9, 9, 9, 1,
		9, 9, 9, 2,
		9, 9, 3, 9)
	for level, want := range map[float32]string{0: "", 1: "", 1.5: "2 7", 2: "2 7", 3: "2 6 11", 9: "2 6 9 11", 10: "", -5: ""} {
		wantText(t, "RimOf", toldCells(impl.RimOf(p, level)), want)
	}
	// At the level itself a cell is over it, whatever sign its zero has.
	zeros := plateWith(3, num(minusZero), 0, num(0x80000001))
	wantText(t, "RimOf +0", toldCells(impl.RimOf(zeros, 0)), "1")
	wantText(t, "RimOf -0", toldCells(impl.RimOf(zeros, num(minusZero))), "1")
	for _, bits := range []uint32{plusInf, minusInf, nanBits} {
		wantText(t, "RimOf "+hex(bits), toldCells(impl.RimOf(p, num(bits))), "fail")
		islands, largest, ok := impl.IslandsOver(p, num(bits))
		wantText(t, "IslandsOver "+hex(bits), toldCells([]int64{islands, largest}, ok), "fail")
	}
}

func TestP5Islands(t *testing.T) {
	for _, c := range []struct {
		rows            []string
		islands, larger int64
	}{
		{[]string{"."}, 0, 0},
		{[]string{"#"}, 1, 1},
		{[]string{"#.", ".#"}, 2, 1},
		{[]string{".#", "#."}, 2, 1},
		{[]string{"##", ".#"}, 1, 3},
		{[]string{"##.", "..#", "#.."}, 3, 2},
		{[]string{"..#", "#..", "..#"}, 3, 1}, // the end of a row is no neighbour of the next one
		{[]string{"#####", "#...#", "#.#.#", "#...#", "#####"}, 2, 16},
		{[]string{"#.#.#", "#.#.#", "#####"}, 1, 11},
		{[]string{"#.#", "#.#", "###", "..#"}, 1, 8},
		{[]string{"#...", "##..", "....", ".###"}, 2, 3},
		{[]string{".#.#.#.#.#.#", "............", "############"}, 7, 12},
		{slices.Repeat([]string{"############"}, 12), 1, 144},
		{slices.Repeat([]string{"............"}, 12), 0, 0},
		{slices.Repeat([]string{"#.#.#.#.#.#.", ".#.#.#.#.#.#"}, 6), 72, 1},
	} {
		var warms []float32
		for _, cell := range strings.Join(c.rows, "") {
			warms = append(warms, map[rune]float32{'.': 1, '#': 2}[cell])
		}
		p := plateWith(int64(len(c.rows[0])), warms...)
		for _, level := range []float32{math.Nextafter32(1, 2), 2} {
			islands, larger, ok := impl.IslandsOver(p, level)
			wantText(t, "IslandsOver of "+strings.Join(c.rows, " "), tell(islands, larger, ok), tell(c.islands, c.larger, true))
		}
		islands, larger, ok := impl.IslandsOver(p, 1)
		wantText(t, "IslandsOver, all of it", tell(islands, larger, ok), tell(int64(1), int64(len(warms)), true))
		islands, larger, ok = impl.IslandsOver(p, 3)
		wantText(t, "IslandsOver, nothing of it", tell(islands, larger, ok), tell(int64(0), int64(0), true))
	}
	islands, larger, ok := impl.IslandsOver(plateWith(2, num(minusZero), 0), 0)
	wantText(t, "IslandsOver of zeros", tell(islands, larger, ok), tell(int64(1), int64(2), true))
}

func TestP5CoolPaths(t *testing.T) {
	p := plateWith(3, 5, 1, 5, 4, 0, 3)
	for i, want := range []string{"0 1 4", "1 4", "2 1 4", "3 4", "4", "5 4"} {
		wantText(t, "CoolPath", toldCells(impl.CoolPath(p, int64(i))), want)
	}
	// Of equal neighbours the first one is taken: above, left, right, below.
	for _, c := range []struct {
		above, left, right, below float32
		want                      string
	}{
		{1, 1, 1, 1, "4 1"}, {2, 1, 1, 1, "4 3"}, {2, 2, 1, 1, "4 5"}, {2, 2, 2, 1, "4 7"}, {1, 2, 1, 2, "4 1"},
		{9, 9, 9, 9, "4"}, {9, 9, 9, 10, "4"}, {10, 10, 10, 10, "4"}, {9, 8, 9, 8, "4 3"},
	} {
		q := plateWith(3, 50, c.above, 50, c.left, 9, c.right, 50, c.below, 50)
		wantText(t, "CoolPath", toldCells(impl.CoolPath(q, 4)), c.want)
	}
	zeros := plateWith(3, num(minusZero), 0, num(minusZero))
	wantText(t, "CoolPath of zeros", toldCells(impl.CoolPath(zeros, 1)), "1")
	for _, i := range []int64{-1, 6, 1 << 32, math.MinInt64, math.MaxInt64} {
		wantText(t, "CoolPath of "+tell(i), toldCells(impl.CoolPath(p, i)), "fail")
	}
	// A path that winds over the whole plate, between its walls.
	long, warm := plateWith(12, slices.Repeat([]float32{1000}, 144)...), float32(500)
	var want []int64
	for y := range int64(12) {
		for k := range int64(12) {
			x := k
			if y%4 == 2 {
				x = 11 - k
			}
			if y%2 == 0 || y%4 == 1 && x == 11 || y%4 == 3 && x == 0 {
				long.Warms[12*y+x] = warm
				want = append(want, 12*y+x)
				warm--
			}
		}
	}
	wantText(t, "CoolPath of a winding path", toldCells(impl.CoolPath(long, 0)), toldCells(want, true))
}
