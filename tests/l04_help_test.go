package tests

import (
	"slices"
	"strconv"
	"strings"

	"loop.example/g01309/impl"
)

// plateOf reads a plate as plateCase has it.
func plateOf(text string) impl.Plate {
	parts := strings.Split(text, ";")
	wide, high, _ := strings.Cut(parts[0], " ")
	p := impl.Plate{Warms: numbers(parts[1]), Eases: numbers(parts[2]), Gains: numbers(parts[3])}
	p.Wide, _ = strconv.ParseInt(wide, 10, 64)
	p.High, _ = strconv.ParseInt(high, 10, 64)
	for _, digit := range parts[4] {
		p.Held = append(p.Held, digit == '1')
	}
	return p
}

// plateWith returns a plate whose cells have the Ease 1, gain no heat and are not held.
func plateWith(wide int64, warms ...float32) impl.Plate {
	return impl.Plate{
		Wide: wide, High: int64(len(warms)) / wide, Warms: warms,
		Eases: slices.Repeat([]float32{1}, len(warms)),
		Gains: make([]float32, len(warms)), Held: make([]bool, len(warms)),
	}
}

// holding returns a plate with other cells that are held.
func holding(p impl.Plate, cells ...int64) impl.Plate {
	p.Held = make([]bool, len(p.Held))
	for _, i := range cells {
		p.Held[i] = true
	}
	return p
}

// plate returns a plate some of whose cells are held.
func (s *somewhere) plate(wide, high int64) impl.Plate {
	p := impl.Plate{Wide: wide, High: high}
	for range wide * high {
		p.Warms = append(p.Warms, s.number(-20, 30))
		p.Eases = append(p.Eases, s.number(0.2, 3))
		p.Gains = append(p.Gains, s.number(-2, 2))
		p.Held = append(p.Held, s.number(0, 1) < 0.2)
	}
	return p
}

// extents are the widths and heights of some plates.
func extents() [][2]int64 {
	return [][2]int64{{1, 1}, {2, 1}, {1, 2}, {12, 1}, {1, 12}, {2, 2}, {3, 2}, {2, 3}, {5, 4}, {7, 12}, {12, 12}}
}

// invalidPlates are plates each of which is wrong in one way.
func invalidPlates() []impl.Plate {
	list := []impl.Plate{{}}
	for _, sides := range [][2]int64{{0, 0}, {0, 4}, {4, 0}, {-1, -4}, {-2, -2}, {1, 3}, {3, 1}, {2, 1}, {4, 2}, {1 << 32, 1 << 32}, {1 << 62, 4}, {4, 1 << 62}} {
		p := plateWith(2, 1, 2, 3, 4)
		p.Wide, p.High = sides[0], sides[1]
		list = append(list, p)
	}
	list = append(list, plateWith(13, make([]float32, 13)...), plateWith(1, make([]float32, 13)...), plateWith(13, make([]float32, 169)...))
	for _, count := range []int{0, 1, 3, 5, 144} {
		for part := range 4 {
			p := plateWith(2, 1, 2, 3, 4)
			switch part {
			case 0:
				p.Warms = slices.Repeat([]float32{1}, count)
			case 1:
				p.Eases = slices.Repeat([]float32{1}, count)
			case 2:
				p.Gains = slices.Repeat([]float32{1}, count)
			case 3:
				p.Held = make([]bool, count)
			}
			list = append(list, p)
		}
	}
	for _, bits := range []uint32{plusZero, minusZero, 0x80000001, bitsOf(-1), plusInf, minusInf, nanBits} {
		for place := range 4 {
			x := num(bits)
			eased := plateWith(2, 1, 2, 3, 4)
			eased.Eases[place] = x
			list = append(list, eased)
			if x-x != 0 {
				warmed, gaining := plateWith(2, 1, 2, 3, 4), plateWith(2, 1, 2, 3, 4)
				warmed.Warms[place], gaining.Gains[place] = x, x
				list = append(list, warmed, gaining)
			}
		}
	}
	return list
}

// neighbours tells the neighbours of a cell without the package under test.
func neighbours(p impl.Plate, i int64) []int64 {
	var list []int64
	for _, step := range [][2]int64{{0, -1}, {-1, 0}, {1, 0}, {0, 1}} {
		x, y := i%p.Wide+step[0], i/p.Wide+step[1]
		if x >= 0 && x < p.Wide && y >= 0 && y < p.High {
			list = append(list, y*p.Wide+x)
		}
	}
	return list
}

func toldPlate(p impl.Plate, ok bool) string { return told(p.Warms, ok) }

// toldCells writes indices of cells with blanks between them.
func toldCells(list []int64, ok bool) string {
	if !ok {
		return "fail"
	}
	var words []string
	for _, i := range list {
		words = append(words, strconv.FormatInt(i, 10))
	}
	return strings.Join(words, " ")
}

// toldOfAll writes what is told of all cells of a plate.
func toldOfAll(p impl.Plate, tell func(i int64) string) string {
	var words []string
	for i := range p.Warms {
		words = append(words, tell(int64(i)))
	}
	return strings.Join(words, ",")
}
