package tests

import (
	"strings"

	"loop.example/g01309/impl"
)

// stuffOf makes a stuff of six numbers in the order of its fields.
func stuffOf(list []float32) impl.Stuff {
	return impl.Stuff{Solid: list[0], Fluid: list[1], EaseSolid: list[2], EaseFluid: list[3], Point: list[4], Latent: list[5]}
}

func barOf(text string) impl.Bar {
	parts := strings.Split(text, ";")
	return impl.Bar{Stuff: stuffOf(numbers(parts[0])), Step: numbers(parts[1])[0], Heats: numbers(parts[2])}
}

func toldHeats(b impl.Bar, ok bool) string { return told(b.Heats, ok) }

// plainStuff is the stuff of the examples.
func plainStuff() impl.Stuff {
	return impl.Stuff{Solid: 2, Fluid: 4, EaseSolid: 1, EaseFluid: 3, Point: 0, Latent: 8}
}

// evenStuff takes 1 of everything.
func evenStuff() impl.Stuff {
	return impl.Stuff{Solid: 1, Fluid: 1, EaseSolid: 1, EaseFluid: 1, Point: 0, Latent: 1}
}

// barWith returns a bar of the stuff of the examples, with the Step 1.
func barWith(heats ...float32) impl.Bar {
	return impl.Bar{Stuff: plainStuff(), Step: 1, Heats: heats}
}

func (s *somewhere) stuff() impl.Stuff {
	return impl.Stuff{
		Solid: s.number(0.3, 5), Fluid: s.number(0.3, 5),
		EaseSolid: s.number(0.3, 5), EaseFluid: s.number(0.3, 5),
		Point: s.number(-20, 20), Latent: s.number(1, 12),
	}
}

// bar returns a bar with cold, melting and hot cells.
func (s *somewhere) bar(count int) impl.Bar {
	b := impl.Bar{Stuff: s.stuff(), Step: s.number(0.3, 3)}
	for range count {
		b.Heats = append(b.Heats, s.number(-15, 30))
	}
	return b
}

// whole returns an integer from low to high.
func (s *somewhere) whole(low, high int64) int64 {
	return min(high, low+int64(float64(high-low+1)*float64(s.number(0, 1))))
}

// invalidStuffs are stuffs each of which is wrong in one way.
func invalidStuffs() []impl.Stuff {
	var list []impl.Stuff
	for _, bits := range []uint32{plusZero, minusZero, 0x80000001, bitsOf(-1), plusInf, minusInf, nanBits} {
		for field := range 6 {
			numbers := []float32{2, 4, 1, 3, 0, 8}
			numbers[field] = num(bits)
			if x := num(bits); field != 4 || x-x != 0 {
				list = append(list, stuffOf(numbers))
			}
		}
	}
	return append(list, impl.Stuff{})
}

// invalidBars are bars each of which is wrong in one way.
func invalidBars() []impl.Bar {
	list := []impl.Bar{{}, barWith(), barWith(make([]float32, 49)...)}
	for _, s := range invalidStuffs() {
		list = append(list, impl.Bar{Stuff: s, Step: 1, Heats: []float32{1, 2}})
	}
	for _, bits := range []uint32{plusZero, minusZero, 0x80000001, bitsOf(-1), plusInf, minusInf, nanBits} {
		b := barWith(1, 2)
		b.Step = num(bits)
		list = append(list, b)
	}
	for _, bits := range []uint32{plusInf, minusInf, nanBits} {
		list = append(list, barWith(num(bits), 2, 3), barWith(1, num(bits), 3), barWith(1, 2, num(bits)))
	}
	// Heats that are finite, but are not so warm.
	quick := plainStuff()
	quick.Solid, quick.Fluid = 0.5, 0.5
	for _, bits := range []uint32{greatest, 0xff7fffff} {
		list = append(list, impl.Bar{Stuff: quick, Step: 1, Heats: []float32{1, num(bits)}})
	}
	return list
}
