package tests

import (
	"math"
	"slices"
	"testing"

	"loop.example/g01309/impl"
)

// outcomesOfFaces calls all functions of chapter 5 that take lists and may fail.
func outcomesOfFaces(list []impl.Face, views, one, other []float32, x, y float32, n, workers int64) []outcome {
	return []outcome{
		{"EvenViews", all(impl.EvenViews(list))},
		{"SolveSquare", all(impl.SolveSquare(views, one))},
		{"ShinesOf", all(impl.ShinesOf(list, views))},
		{"NetShines", all(impl.NetShines(list, views))},
		{"PanesThrough", all(impl.PanesThrough(one, other))},
		{"BoxViews", all(impl.BoxViews(x, y))},
		{"SunDay", all(impl.SunDay(x, y, x, n))},
		{"DayShared", all(impl.DayShared(one, x, y, n, workers))},
	}
}

// outcomesOfShine calls all functions of chapter 5 that take no lists and may fail.
func outcomesOfShine(a, b impl.Face, x, y, z float32, n int64) []outcome {
	return []outcome{
		{"ShineOf", all(impl.ShineOf(x, y))},
		{"WarmForShine", all(impl.WarmForShine(x))},
		{"PlatesView", all(impl.PlatesView(x, y, z))},
		{"BetweenPlates", all(impl.BetweenPlates(a, b))},
		{"ShieldedPlates", all(impl.ShieldedPlates(a, b, n, z))},
		{"SunHeight", all(impl.SunHeight(x, y, z))},
		{"SunOnFace", all(impl.SunOnFace(x, y, z, x, y, z))},
		{"SunOnFace of others", all(impl.SunOnFace(0.125, x, 0.25, y, 10, z))},
		{"AirAlong", all(impl.AirAlong(x, y, z))},
		{"WallLoss", all(impl.WallLoss(a, x, y, z))},
		{"RestWarm", all(impl.RestWarm(z, x, y, x, z))},
		{"RestWarm of others", all(impl.RestWarm(0.5, x, y, 260, z))},
		{"ComfortOf", all(impl.ComfortOf(x, y, z))},
	}
}

func sameFace(a, b impl.Face) bool { return tell(a) == tell(b) }

// checkTwice checks what functions return, and that they return it once more.
func checkTwice(t *testing.T, call func() []outcome) {
	t.Helper()
	first := call()
	for i, second := range call() {
		checkOutcome(t, second)
		if tell(first[i].values...) != tell(second.values...) {
			t.Errorf("%s: first %v, then %v", second.name, first[i].values, second.values)
		}
	}
}

// checkFaces calls all functions of lists twice, and checks what they return and that they leave the lists alone.
func checkFaces(t *testing.T, list []impl.Face, views, one, other []float32, x, y float32, n, workers int64) {
	t.Helper()
	faces, sameFaces := withRoom(list, sameFace)
	square, sameSquare := withRoom(views, sameBits)
	left, sameLeft := withRoom(one, sameBits)
	right, sameRight := withRoom(other, sameBits)
	checkTwice(t, func() []outcome { return outcomesOfFaces(faces, square, left, right, x, y, n, workers) })
	wantBool(t, "AreFaces", impl.AreFaces(faces), impl.AreFaces(list))
	wantBool(t, "AreViews", impl.AreViews(faces, square), impl.AreViews(list, views))
	wantBool(t, "SameFaces", impl.SameFaces(faces, list) && impl.SameFaces(list, faces), true)
	wantBool(t, "the lists are unchanged", sameFaces() && sameSquare() && sameLeft() && sameRight(), true)
}

func TestP1FacesOfAllNumbers(t *testing.T) {
	for i, x := range strangeNumbers() {
		for k, y := range strangeNumbers() {
			odd := []impl.Face{face(x, y, 1), face(1, x, y)}
			warm := []impl.Face{face(1, 0.5, x), face(y, 1, 300)}
			checkFaces(t, odd, facing(), []float32{x, y}, []float32{y, x}, x, y, 2, 2)
			checkFaces(t, warm, facing(), []float32{x, 1}, []float32{0.5, y}, 0.22, x, int64(i%4), int64(k%4))
			checkFaces(t, twoFaces(), []float32{x, 1, y, 2}, []float32{y, x}, []float32{0, 0.5}, y, 0.5, 1, 1)
			checkFaces(t, twoFaces(), []float32{x, y, y, x}, []float32{1, 2}, []float32{x, y}, 0.22, y, 3, 1)
			for _, z := range []float32{x, 0.25, num(greatest)} {
				checkTwice(t, func() []outcome {
					return outcomesOfShine(face(x, y, z), face(1, 0.5, y), x, y, z, int64(k%4))
				})
				checkTwice(t, func() []outcome {
					return outcomesOfShine(face(1, 1, x), face(2, 0.5, y), z, x, y, int64(i%4))
				})
			}
			f := face(x, y, x)
			wantBool(t, "ValidFace", impl.ValidFace(f), impl.AreFaces([]impl.Face{f}))
		}
	}
}

func TestP1FacesOfAllLengths(t *testing.T) {
	lengths := []int{0, 1, 2, 4, 5, 6, 7, 8, 9, 16, 31, 32, 33, 64, 81, 5000}
	for _, count := range lengths {
		for _, size := range lengths {
			list := slices.Repeat([]impl.Face{face(1, 0.5, 300)}, count)
			views := slices.Repeat([]float32{1 / float32(max(count, 1))}, size)
			checkFaces(t, list, views, views, make([]float32, count), 0.2, 0.3, 3, 2)
			checkFaces(t, list, views, make([]float32, count), views, 0.2, 0.3, int64(size), int64(count))
		}
		square := slices.Repeat([]float32{1 / float32(max(count, 1))}, min(count*count, 100))
		checkFaces(t, slices.Repeat([]impl.Face{face(1, 0.5, 300)}, count), square, make([]float32, count), nil, 0.2, 0.3, 1, 1)
	}
}

func TestP1FacesWithAllIntegers(t *testing.T) {
	wholes := []int64{math.MinInt64, math.MinInt64 + 1, -1 << 32, -1, 0, 1, 2, 7, 8, 9, 16, 17, 63, 64, 65, 1 << 31, 1 << 32, 1 << 62, math.MaxInt64}
	for _, n := range wholes {
		for _, workers := range wholes {
			checkFaces(t, twoFaces(), facing(), []float32{0.1, 0.2}, nil, 0.2, 0.3, n, workers)
			checkFaces(t, nil, nil, nil, nil, 0.2, 0.3, n, workers)
		}
		checkTwice(t, func() []outcome { return outcomesOfShine(face(1, 1, 1), face(1, 1, 2), 1, 0.5, 0.25, n) })
	}
}

// TestP1InvalidFacesFail checks that no function takes an invalid face.
func TestP1InvalidFacesFail(t *testing.T) {
	for _, o := range outcomesOfFaces(twoFaces(), facing(), []float32{0.1, 0.2}, []float32{0.1, 0.2}, 0.2, 0.3, 2, 2) {
		wantBool(t, o.name+" of valid faces", o.ok(), true)
	}
	for _, o := range outcomesOfShine(face(1, 0.5, 300), face(2, 1, 200), 0.125, 0.25, 0.5, 2) {
		wantBool(t, o.name+" of valid faces", o.ok(), true)
	}
	ofFaces := []string{"EvenViews", "ShinesOf", "NetShines", "BetweenPlates", "ShieldedPlates", "WallLoss"}
	for _, f := range invalidFaces() {
		for place := range 2 {
			list := twoFaces()
			list[place] = f
			for _, o := range outcomesOfFaces(list, facing(), nil, nil, 0.2, 0.3, 1, 1) {
				wantBool(t, o.name+" of "+tell(f), o.ok() && slices.Contains(ofFaces, o.name), false)
			}
		}
		for _, o := range outcomesOfShine(f, face(1, 1, 1), 0.125, 0.25, 0.5, 2) {
			wantBool(t, o.name+" of "+tell(f), o.ok() && slices.Contains(ofFaces, o.name), false)
		}
	}
}

func TestP1EmptyListsOfFacesAreNil(t *testing.T) {
	none := []float32{}
	empty := outcomesOfFaces([]impl.Face{}, none, none, none, 0.2, 0.3, 2, 2)
	for i, o := range outcomesOfFaces(nil, nil, nil, nil, 0.2, 0.3, 2, 2) {
		wantText(t, o.name, tell(empty[i].values...), tell(o.values...))
	}
	wantBool(t, "AreFaces", impl.AreFaces([]impl.Face{}) || impl.AreFaces(nil), false)
	wantBool(t, "AreViews", impl.AreViews([]impl.Face{}, none) || impl.AreViews(nil, nil), false)
}

func TestP1ResultsOfFacesAreNew(t *testing.T) {
	faces, sameFaces := withRoom(twoFaces(), sameFace)
	views, sameViews := withRoom(facing(), sameBits)
	one, sameOne := withRoom([]float32{0.1, 0.2}, sameBits)
	other, sameOther := withRoom([]float32{0.5, 0.25}, sameBits)
	for _, n := range []int64{1, 2, 8} {
		calls := func() []outcome { return outcomesOfFaces(faces, views, one, other, 0.2, 0.3, n, n) }
		for i, o := range calls() {
			wantNewLists(t, o.name, func() []any { return calls()[i].values })
			wantBool(t, o.name+" returns new memory", sameFaces() && sameViews() && sameOne() && sameOther(), true)
		}
	}
	// A list that one call has returned is never returned again.
	for i, o := range outcomesOfFaces(faces, views, one, other, 0.2, 0.3, 2, 2) {
		want := tell(o.values...)
		for _, list := range listsOf(o.values...) {
			for k := range list {
				list[k] = -77
			}
		}
		again := outcomesOfFaces(faces, views, one, other, 0.2, 0.3, 2, 2)[i]
		wantText(t, o.name+" called again", tell(again.values...), want)
	}
}

// TestP1SharedDaysAreAllTheSame checks that it never matters which worker comes first.
func TestP1SharedDaysAreAllTheSame(t *testing.T) {
	r := somewhere(95)
	var norths []float32
	for range 32 {
		norths = append(norths, r.number(-0.25, 0.25))
	}
	want := toldList(impl.DayShared(norths, 0.4, 700, 9, 8))
	for range 300 {
		wantText(t, "DayShared", toldList(impl.DayShared(norths, 0.4, 700, 9, 8)), want)
	}
}
