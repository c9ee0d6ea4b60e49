package tests

import (
	"strconv"
	"strings"

	"loop.example/g01309/impl"
)

// listOf reads a list of numbers as shineCase has it.
func listOf(text string) []float32 {
	if text == "-" {
		return nil
	}
	return numbers(text)
}

// facesOf reads faces as shineCase has them.
func facesOf(text string) []impl.Face {
	var list []impl.Face
	for x := listOf(text); len(x) >= 3; x = x[3:] {
		list = append(list, face(x[0], x[1], x[2]))
	}
	return list
}

func wholeOf(text string) int64 {
	n, err := strconv.ParseInt(text, 10, 64)
	if err != nil {
		panic(err)
	}
	return n
}

// toldList writes numbers as shineCase has them.
func toldList(list []float32, ok bool) string {
	if ok && len(list) == 0 {
		return "-"
	}
	return told(list, ok)
}

func toldBool(is bool) string { return strconv.FormatBool(is) }

// shineOutcome writes what a function of chapter 5 returns for the arguments of a case.
func shineOutcome(name, arguments string) string {
	words := strings.Fields(arguments)
	x := func(i int) float32 { return numbers(words[i])[0] }
	list := func(i int) []float32 { return listOf(words[i]) }
	faces := func(i int) []impl.Face { return facesOf(words[i]) }
	whole := func(i int) int64 { return wholeOf(words[i]) }
	switch name {
	case "ShineOf":
		return toldNumber(impl.ShineOf(x(0), x(1)))
	case "WarmForShine":
		return toldNumber(impl.WarmForShine(x(0)))
	case "PlatesView":
		return toldNumber(impl.PlatesView(x(0), x(1), x(2)))
	case "BoxViews":
		return toldList(impl.BoxViews(x(0), x(1)))
	case "AreViews":
		return toldBool(impl.AreViews(faces(0), list(1)))
	case "EvenViews":
		return toldList(impl.EvenViews(faces(0)))
	case "SolveSquare":
		return toldList(impl.SolveSquare(list(0), list(1)))
	case "ShinesOf":
		return toldList(impl.ShinesOf(faces(0), list(1)))
	case "NetShines":
		return toldList(impl.NetShines(faces(0), list(1)))
	case "BetweenPlates":
		return toldNumber(impl.BetweenPlates(faces(0)[0], faces(1)[0]))
	case "ShieldedPlates":
		return toldNumber(impl.ShieldedPlates(faces(0)[0], faces(1)[0], whole(2), x(3)))
	case "PanesThrough":
		return toldPanes(impl.PanesThrough(list(0), list(1)))
	case "SunHeight":
		return toldNumber(impl.SunHeight(x(0), x(1), x(2)))
	case "SunOnFace":
		return toldNumber(impl.SunOnFace(x(0), x(1), x(2), x(3), x(4), x(5)))
	case "SunDay":
		return toldList(impl.SunDay(x(0), x(1), x(2), whole(3)))
	case "DayShared":
		return toldList(impl.DayShared(list(0), x(1), x(2), whole(3), whole(4)))
	case "AirAlong":
		return toldNumber(impl.AirAlong(x(0), x(1), x(2)))
	case "WallLoss":
		return toldNumber(impl.WallLoss(faces(0)[0], x(1), x(2), x(3)))
	case "RestWarm":
		return toldNumber(impl.RestWarm(x(0), x(1), x(2), x(3), x(4)))
	case "ComfortOf":
		return toldNumber(impl.ComfortOf(x(0), x(1), x(2)))
	}
	panic("a function that shineOutcome does not know")
}

// toldPanes writes what goes through panes, what goes back, and what stays.
func toldPanes(through, back, stays float32, ok bool) string {
	return told([]float32{through, back, stays}, ok)
}

func face(wide, shine, warm float32) impl.Face {
	return impl.Face{Wide: wide, Shine: shine, Warm: warm}
}

// twoFaces are the faces of a valid list.
func twoFaces() []impl.Face {
	return []impl.Face{face(2, 0.5, 300), face(2, 0.25, 200)}
}

// facing are the views of two faces that see nothing but one another.
func facing() []float32 { return []float32{0, 1, 1, 0} }

func (s *somewhere) face() impl.Face {
	return face(s.number(0.2, 5), s.number(0.05, 1), s.number(0, 600))
}

func (s *somewhere) faces(count int) []impl.Face {
	var list []impl.Face
	for range count {
		list = append(list, s.face())
	}
	return list
}

// boxOf returns four faces that are the sides of a box, and their views.
func (s *somewhere) boxOf() ([]impl.Face, []float32) {
	list := s.faces(4)
	list[2].Wide, list[3].Wide = list[0].Wide, list[1].Wide
	views, _ := impl.BoxViews(list[0].Wide, list[1].Wide)
	return list, views
}

// ringOf returns faces, and views with which any two faces see as much of one
// another: each face sees the others by the lesser Wide of both, and itself with
// the rest.
func (s *somewhere) ringOf(count int) ([]impl.Face, []float32) {
	list, views := s.faces(count), make([]float32, count*count)
	for i := range list {
		rest := 1.0
		for k := range list {
			if k != i {
				share := float64(min(list[i].Wide, list[k].Wide)) / float64(list[i].Wide) / float64(count)
				views[i*count+k] = float32(share)
				rest -= share
			}
		}
		views[i*count+i] = float32(rest)
	}
	return list, views
}

// invalidFaces are faces each of which is wrong in one way.
func invalidFaces() []impl.Face {
	list := []impl.Face{{}}
	for _, bits := range []uint32{plusZero, minusZero, 0x80000001, bitsOf(-1), plusInf, minusInf, nanBits} {
		x := num(bits)
		list = append(list, face(x, 0.5, 300), face(2, x, 300))
		if x != 0 {
			list = append(list, face(2, 0.5, x))
		}
	}
	return append(list, face(2, num(oneBits+1), 300), face(2, 2, 300))
}
