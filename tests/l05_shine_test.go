package tests

import (
	"math"
	"slices"
	"testing"

	"loop.example/g01309/impl"
)

// TestChapter5Examples asserts the examples at the end of chapter 5.
func TestChapter5Examples(t *testing.T) {
	wantText(t, "a face of 100 degrees", toldNumber(impl.ShineOf(100, 1)), toldNumber(5.67, true))
	warm, cold := face(1, 1, 100), face(1, 1, 0)
	wantText(t, "two plates", toldNumber(impl.BetweenPlates(warm, cold)), toldNumber(5.67, true))
	wantText(t, "two plates with a shield", toldNumber(impl.ShieldedPlates(warm, cold, 1, 1)), toldNumber(5.67/2, true))
	wantText(t, "the sun at noon", toldNumber(impl.SunHeight(0, 0.22, 0.5)), toldNumber(0.25, true))
}

func TestChapter5Limits(t *testing.T) {
	if impl.MaxFaces != 8 || impl.MaxPanes != 6 || impl.MaxWorkers != 8 {
		t.Error("a constant is not as the chapter has it")
	}
}

func TestP6ShineByItsBits(t *testing.T) {
	for _, c := range shineCases {
		wantText(t, c.name+" of "+c.arguments, shineOutcome(c.name, c.arguments), c.want)
	}
}

func TestP6ValidFaces(t *testing.T) {
	for _, f := range []impl.Face{
		face(1, 1, 0), face(1, 1, num(minusZero)), face(num(leastBits), num(leastBits), num(leastBits)),
		face(num(greatest), 1, num(greatest)), face(2, 0.5, 300),
	} {
		wantBool(t, "ValidFace of "+tell(f), impl.ValidFace(f), true)
		wantBool(t, "AreFaces of "+tell(f), impl.AreFaces([]impl.Face{f}), true)
	}
	for _, f := range invalidFaces() {
		wantBool(t, "ValidFace of "+tell(f), impl.ValidFace(f), false)
		for place := range 8 {
			list := slices.Repeat([]impl.Face{face(1, 1, 1)}, 8)
			list[place] = f
			wantBool(t, "AreFaces of "+tell(list), impl.AreFaces(list), false)
		}
	}
	for count := range 20 {
		list := slices.Repeat([]impl.Face{face(1, 1, 1)}, count)
		wantBool(t, "AreFaces", impl.AreFaces(list), count >= 1 && count <= 8)
	}
}

func TestP6SameFaces(t *testing.T) {
	list := func() []impl.Face { return []impl.Face{face(1, 0.5, 300), face(2, 1, 0), face(1, 1, 4)} }
	wantBool(t, "SameFaces of equal lists", impl.SameFaces(list(), list()), true)
	for place := range 3 {
		for field := range 3 {
			other := list()
			number := []*float32{&other[place].Wide, &other[place].Shine, &other[place].Warm}[field]
			*number = math.Nextafter32(*number, 9)
			wantBool(t, "SameFaces", impl.SameFaces(list(), other) || impl.SameFaces(other, list()), false)
			same := slices.Clone(other)
			*number = num(nanBits)
			wantBool(t, "SameFaces", impl.SameFaces(same, other), false)
			same = slices.Clone(other)
			*number = num(0xffc00001)
			wantBool(t, "SameFaces of not-a-numbers", impl.SameFaces(same, other), true)
			*number = 0
			same = slices.Clone(other)
			*number = num(minusZero)
			wantBool(t, "SameFaces of two zeros", impl.SameFaces(same, other), false)
			wantBool(t, "SameFaces of equal zeros", impl.SameFaces(other, slices.Clone(other)), true)
		}
	}
	wantBool(t, "SameFaces of a beginning", impl.SameFaces(list(), list()[:2]) || impl.SameFaces(list()[:2], list()), false)
	wantBool(t, "SameFaces in another order", impl.SameFaces(list(), []impl.Face{list()[1], list()[0], list()[2]}), false)
	wantBool(t, "SameFaces of none", impl.SameFaces(nil, []impl.Face{}), true)
	many := slices.Repeat(list(), 20)
	wantBool(t, "SameFaces of what are no faces", impl.SameFaces(many, slices.Clone(many)), true)
}

// TestP6FacesAtTheLeastWarmth checks that what is not warm at all shines nothing, but still throws back.
func TestP6FacesAtTheLeastWarmth(t *testing.T) {
	for _, zero := range []float32{0, num(minusZero)} {
		for _, shine := range []float32{0, num(leastBits), 0.5, 1} {
			wantText(t, "ShineOf", toldNumber(impl.ShineOf(zero, shine)), toldNumber(0, true))
		}
		cold := []impl.Face{face(1, 0.5, zero), face(3, 0.25, zero), face(2, 1, zero)}
		views, ok := impl.EvenViews(cold)
		wantBool(t, "EvenViews", ok, true)
		wantText(t, "ShinesOf", toldList(impl.ShinesOf(cold, views)), told([]float32{0, 0, 0}, true))
		wantText(t, "NetShines", toldList(impl.NetShines(cold, views)), told([]float32{0, 0, 0}, true))
		wantText(t, "BetweenPlates", toldNumber(impl.BetweenPlates(cold[0], cold[1])), toldNumber(0, true))
		wantText(t, "ShieldedPlates", toldNumber(impl.ShieldedPlates(cold[0], cold[1], 3, 0.5)), toldNumber(0, true))
		wantText(t, "WallLoss", toldNumber(impl.WallLoss(cold[0], zero, zero, 1)), toldNumber(0, true))
		wantText(t, "RestWarm", toldNumber(impl.RestWarm(0.5, 0, zero, zero, 1)), toldNumber(0, true))
		lit := []impl.Face{face(1, 0.5, zero), face(1, 1, 100)}
		wantText(t, "ShinesOf beside a warm one", toldList(impl.ShinesOf(lit, facing())), told([]float32{0.5 * 5.67, 5.67}, true))
		wantText(t, "NetShines beside a warm one", toldList(impl.NetShines(lit, facing())), told([]float32{-0.5 * 5.67, 0.5 * 5.67}, true))
	}
	wantText(t, "WarmForShine", toldNumber(impl.WarmForShine(0)), toldNumber(0, true))
}

func TestP6WarmthLeadsBack(t *testing.T) {
	r := somewhere(71)
	for range 300 {
		warm := r.number(0.1, 3000)
		shine, _ := impl.ShineOf(warm, 1)
		back, ok := impl.WarmForShine(shine)
		wantBool(t, "WarmForShine", ok, true)
		wantNear(t, "the warmth of a shine", back, float64(warm), 1e-6*float64(warm))
		half, _ := impl.ShineOf(warm, 0.5)
		wantText(t, "half of a shine", digits(half), digits(shine/2))
		wantNear(t, "ShineOf", shine, 5.67*math.Pow(float64(warm)/100, 4), 1e-5*float64(shine))
	}
}

func TestP6ViewsOfPlatesAreSeenBothWays(t *testing.T) {
	r := somewhere(72)
	for range 300 {
		wide, high, apart := r.number(0.2, 4), r.number(0.2, 4), r.number(0.2, 4)
		view, ok := impl.PlatesView(wide, high, apart)
		back, both := impl.PlatesView(high, wide, apart)
		wantBool(t, "PlatesView", ok && both && view > 0 && view < 1, true)
		wantNear(t, "what is seen both ways", wide*view, float64(high*back), 1e-5)
		w, h, a := float64(wide), float64(high), float64(apart)
		want := (math.Hypot((w+h)/2, a) - math.Hypot((w-h)/2, a)) / w
		wantNear(t, "PlatesView, by strings", view, want, 1e-5)
		// A side of a box sees the opposite one as a strip of the same size.
		strip, _ := impl.PlatesView(wide, wide, high)
		views, ok := impl.BoxViews(wide, high)
		wantBool(t, "BoxViews", ok, true)
		wantNear(t, "what is seen of the opposite side", views[2], float64(strip), 1e-5)
	}
}

func TestP6ViewsOfBoxes(t *testing.T) {
	r := somewhere(73)
	for range 100 {
		list, views := r.boxOf()
		wantBool(t, "AreViews of a box", impl.AreViews(list, views), true)
		turned, _ := impl.BoxViews(list[1].Wide, list[0].Wide)
		for i := range 4 {
			for k := range 4 {
				there, back := list[i].Wide*views[4*i+k], list[k].Wide*views[4*k+i]
				wantNear(t, "what is seen both ways", there, float64(back), 1e-5)
				wantText(t, "a box that is turned", digits(turned[(i+1)%4*4+(k+1)%4]), digits(views[4*i+k]))
			}
			wantText(t, "what a side sees of itself", digits(views[5*i]), digits(0))
			wantText(t, "both sides beside", digits(views[4*i+(i+1)%4]), digits(views[4*i+(i+3)%4]))
		}
	}
}

func TestP6EvenViews(t *testing.T) {
	r := somewhere(74)
	for count := 2; count <= 8; count++ {
		list := r.faces(count)
		views, ok := impl.EvenViews(list)
		wantBool(t, "EvenViews are views", ok && impl.AreViews(list, views), true)
		for i := range list {
			others := float32(0)
			for k := range list {
				if k != i {
					others += list[k].Wide
				}
			}
			for k := range list {
				want := list[k].Wide / others
				if k == i {
					want = 0
				}
				wantText(t, "EvenViews", digits(views[i*count+k]), digits(want))
			}
		}
	}
	_, ok := impl.EvenViews(twoFaces()[:1])
	wantBool(t, "EvenViews of a single face", ok, false)
}

func TestP6SumsOfViews(t *testing.T) {
	list := []impl.Face{face(1, 1, 1), face(1, 1, 1)}
	for _, c := range []struct {
		sum  float32
		want bool
	}{
		{1, true}, {0.9990005, true}, {0.9991, true}, {0.9989995, false}, {0.998, false}, {1.0009995, true}, {1.0010005, false}, {1.002, false}, {0, false}, {2, false},
	} {
		for row := range 2 {
			views := facing()
			views[2*row], views[2*row+1] = c.sum/2, c.sum/2
			wantBool(t, "AreViews of "+tell(views), impl.AreViews(list, views), c.want)
		}
	}
	for _, bits := range []uint32{0x80000001, bitsOf(-0.0005), oneBits + 1, plusInf, minusInf, nanBits} {
		for place := range 4 {
			views := facing()
			views[place] = num(bits)
			wantBool(t, "AreViews of "+tell(views), impl.AreViews(list, views), false)
		}
	}
	wantBool(t, "AreViews with the other zero", impl.AreViews(list, []float32{num(minusZero), 1, 1, num(minusZero)}), true)
	wantBool(t, "AreViews of one face", impl.AreViews(list[:1], []float32{1}), true)
	for count := range 20 {
		if views := slices.Repeat([]float32{0.5}, count); count != 4 {
			wantBool(t, "AreViews of another length", impl.AreViews(list, views), false)
		}
	}
	for _, f := range invalidFaces() {
		wantBool(t, "AreViews of "+tell(f), impl.AreViews([]impl.Face{list[0], f}, facing()), false)
	}
	wantBool(t, "AreViews of none", impl.AreViews(nil, nil), false)
	wantBool(t, "AreViews of 9 faces", impl.AreViews(slices.Repeat(list[:1], 9), slices.Repeat([]float32{1.0 / 9}, 81)), false)
}

func TestP6SquaresAreSolved(t *testing.T) {
	r := somewhere(75)
	for count := 1; count <= 8; count++ {
		for range 20 {
			var a, b []float32
			for range count * count {
				a = append(a, r.number(-3, 3))
			}
			for i := range count {
				a[i*count+(i+1)%count] += 20
				b = append(b, r.number(-9, 9))
			}
			x, ok := impl.SolveSquare(a, b)
			wantBool(t, "SolveSquare", ok && len(x) == count, true)
			for i := range x {
				made := 0.0
				for k := range x {
					made += float64(a[i*count+k]) * float64(x[k])
				}
				wantNear(t, "what a square makes of what solves it", float32(made), float64(b[i]), 1e-4)
			}
		}
	}
}

func TestP6SquaresThatAreNotSolved(t *testing.T) {
	for _, c := range []struct{ a, b []float32 }{
		{nil, nil}, {nil, []float32{1}}, {[]float32{1}, nil},
		{[]float32{0}, []float32{0}}, {[]float32{num(minusZero)}, []float32{1}},
		{[]float32{1, 2, 2, 4}, []float32{1, 2}}, {[]float32{0, 0, 1, 1}, []float32{0, 1}}, {[]float32{0, 1, 0, 1}, []float32{1, 1}},
		{[]float32{1, 0, 0, 1}, []float32{1}}, {[]float32{1, 0, 0, 1}, []float32{1, 2, 3}}, {[]float32{1, 0, 0}, []float32{1, 2}},
		{make([]float32, 81), make([]float32, 9)},
		{[]float32{num(leastBits)}, []float32{1}}, {[]float32{0.5}, []float32{num(greatest)}},
		// Behind the first column there is an infinity less another one.
		{[]float32{1, 3e38, 3e38, -1, 3e38, 3e38, 1, -3e38, -3e38}, []float32{1, 2, 3}},
	} {
		_, ok := impl.SolveSquare(c.a, c.b)
		wantBool(t, "SolveSquare of "+tell(c.a, c.b), ok, false)
	}
	for _, bits := range []uint32{plusInf, minusInf, nanBits} {
		for place := range 6 {
			numbers := []float32{2, 0, 0, 2, 1, 1}
			numbers[place] = num(bits)
			_, ok := impl.SolveSquare(numbers[:4], numbers[4:])
			wantBool(t, "SolveSquare of "+tell(numbers), ok, false)
		}
	}
}

// TestP6RowsChangePlaces checks squares that have a zero where a column begins.
func TestP6RowsChangePlaces(t *testing.T) {
	for _, c := range []struct{ a, b, want []float32 }{
		{[]float32{0, 2, 4, 0}, []float32{2, 8}, []float32{2, 1}},
		{[]float32{0, 0, 1, 2, 0, 0, 0, 4, 0}, []float32{3, 4, 8}, []float32{2, 2, 3}},
		{[]float32{0, 1, 0, 0, 0, 1, 1, 0, 0}, []float32{3, 4, 8}, []float32{8, 3, 4}},
		// The first one of two equal rows leads, which is told by the sign of a zero.
		{[]float32{-3, 1, 3, 1}, []float32{1, 1}, []float32{num(minusZero), 1}},
		{[]float32{3, 1, -3, 1}, []float32{1, 1}, []float32{0, 1}},
		// The last row leads, without which 1 would be lost.
		{[]float32{1e-9, 1, 1, 1}, []float32{1, 2}, []float32{1, 1}},
	} {
		wantText(t, "SolveSquare of "+tell(c.a), toldList(impl.SolveSquare(c.a, c.b)), told(c.want, true))
	}
}

// TestP6WhatFacesLoseOthersGain checks that all heat that leaves faces comes in elsewhere, nearly.
func TestP6WhatFacesLoseOthersGain(t *testing.T) {
	r := somewhere(76)
	check := func(list []impl.Face, views []float32) {
		t.Helper()
		nets, ok := impl.NetShines(list, views)
		wantBool(t, "NetShines", ok && len(nets) == len(list), true)
		sum, size := 0.0, 0.0
		for _, net := range nets {
			sum += float64(net)
			size += math.Abs(float64(net))
		}
		for _, f := range list {
			shine, _ := impl.ShineOf(f.Warm, 1)
			size += float64(f.Wide * shine)
		}
		wantNear(t, "what all faces lose", float32(sum), 0, 1e-5*size)
	}
	for range 100 {
		check(r.boxOf())
		for count := 2; count <= 8; count++ {
			check(r.ringOf(count))
		}
	}
}

func TestP6WarmFacesLoseAndColdOnesGain(t *testing.T) {
	r := somewhere(77)
	for range 100 {
		list, views := r.boxOf()
		for i := range list {
			list[i].Warm = 300
		}
		nets, ok := impl.NetShines(list, views)
		wantBool(t, "NetShines", ok, true)
		for i, net := range nets {
			wantNear(t, "what faces of one warmth lose", net, 0, 0.01*float64(list[i].Wide))
		}
		list[0].Warm, list[2].Warm = 400, 200
		nets, _ = impl.NetShines(list, views)
		wantBool(t, "a warm face loses, a cold one gains", nets[0] > 0 && nets[2] < 0, true)
	}
}

// TestP6ShinesAreOwnAndThrownBack checks that what a face shines is its own shine and what it throws back of what comes to it.
func TestP6ShinesAreOwnAndThrownBack(t *testing.T) {
	r := somewhere(78)
	for count := 1; count <= 8; count++ {
		for range 20 {
			list, views := r.ringOf(count)
			shines, ok := impl.ShinesOf(list, views)
			wantBool(t, "ShinesOf", ok && len(shines) == count, true)
			nets, _ := impl.NetShines(list, views)
			for i, f := range list {
				own, _ := impl.ShineOf(f.Warm, f.Shine)
				came, _ := impl.DotNumbers(views[i*count:(i+1)*count], shines)
				want := float64(own) + float64(1-f.Shine)*float64(came)
				wantNear(t, "what a face shines", shines[i], want, 1e-4*(1+want))
				wantText(t, "what a face loses", digits(nets[i]), digits(f.Wide*(shines[i]-came)))
			}
		}
	}
	black := []impl.Face{face(1, 1, 100), face(2, 1, 200), face(3, 1, 0)}
	views, _ := impl.EvenViews(black)
	wantText(t, "ShinesOf faces that throw nothing back", toldList(impl.ShinesOf(black, views)), told([]float32{5.67, 5.67 * 16, 0}, true))
	alone := []impl.Face{face(3, 0.25, 300)}
	nets, ok := impl.NetShines(alone, []float32{1})
	wantText(t, "NetShines of a face that sees only itself", toldList(nets, ok), told([]float32{0}, true))
}

func TestP6ShinesThatAreTooGreatFail(t *testing.T) {
	hot := []impl.Face{face(1, 0.5, 300), face(1, 0.5, num(greatest))}
	_, ok := impl.ShinesOf(hot, facing())
	wantBool(t, "ShinesOf", ok, false)
	_, ok = impl.NetShines(hot, facing())
	wantBool(t, "NetShines", ok, false)
	wide := []impl.Face{face(num(greatest), 0.5, 1000), face(1, 0.5, 0)}
	_, ok = impl.ShinesOf(wide, facing())
	wantBool(t, "ShinesOf wide faces", ok, true)
	_, ok = impl.NetShines(wide, facing())
	wantBool(t, "NetShines of wide faces", ok, false)
	for place := range 2 {
		pair := []impl.Face{face(1, 0.5, 300), face(1, 0.5, 300)}
		pair[place].Warm = num(greatest)
		_, ok = impl.BetweenPlates(pair[0], pair[1])
		wantBool(t, "BetweenPlates", ok, false)
		_, ok = impl.ShieldedPlates(pair[0], pair[1], 1, 1)
		wantBool(t, "ShieldedPlates", ok, false)
	}
}

// TestP6PlatesAreFacesThatSeeOneAnother holds BetweenPlates against NetShines, and shields against plates between plates.
func TestP6PlatesAreFacesThatSeeOneAnother(t *testing.T) {
	r := somewhere(79)
	for range 200 {
		a, b := r.face(), r.face()
		a.Wide, b.Wide = 1, 1
		nets, _ := impl.NetShines([]impl.Face{a, b}, facing())
		flow, ok := impl.BetweenPlates(a, b)
		shine, _ := impl.ShineOf(max(a.Warm, b.Warm), 1)
		near := 1e-5 * float64(shine)
		wantBool(t, "BetweenPlates", ok, true)
		wantNear(t, "BetweenPlates", flow, float64(nets[0]), near)
		back, _ := impl.BetweenPlates(b, a)
		wantNear(t, "BetweenPlates, the other way round", back, -float64(flow), 1e-6*math.Abs(float64(flow)))
		for shields := int64(0); shields <= 16; shields++ {
			s := r.number(0.05, 1)
			less, ok := impl.ShieldedPlates(a, b, shields, s)
			hinder := 1/float64(a.Shine) + 1/float64(b.Shine) - 1
			want := float64(flow) * hinder / (hinder + float64(shields)*(2/float64(s)-1))
			wantBool(t, "ShieldedPlates", ok, true)
			wantNear(t, "ShieldedPlates", less, want, 1e-5*math.Abs(want))
		}
		none, _ := impl.ShieldedPlates(a, b, 0, 0.5)
		wantText(t, "ShieldedPlates without shields", digits(none), digits(flow))
	}
}

func TestP6ShieldsAreChecked(t *testing.T) {
	a, b := face(1, 0.5, 300), face(1, 0.25, 200)
	for _, shields := range []int64{-1, 17, 1 << 32, math.MinInt64, math.MaxInt64} {
		_, ok := impl.ShieldedPlates(a, b, shields, 1)
		wantBool(t, "ShieldedPlates with "+impl.Decimal(shields)+" shields", ok, false)
	}
	for _, shields := range []int64{0, 1, 16} {
		for _, bits := range []uint32{plusZero, minusZero, 0x80000001, bitsOf(-1), oneBits + 1, plusInf, minusInf, nanBits} {
			_, ok := impl.ShieldedPlates(a, b, shields, num(bits))
			wantBool(t, "ShieldedPlates with the shine "+hex(bits), ok, false)
		}
		for _, bits := range []uint32{leastBits, leastNormal, oneBits - 1, oneBits} {
			_, ok := impl.ShieldedPlates(a, b, shields, num(bits))
			wantBool(t, "ShieldedPlates with the shine "+hex(bits), ok, true)
		}
	}
	for _, f := range invalidFaces() {
		for _, pair := range [][2]impl.Face{{a, f}, {f, a}} {
			_, ok := impl.BetweenPlates(pair[0], pair[1])
			wantBool(t, "BetweenPlates of "+tell(f), ok, false)
			_, ok = impl.ShieldedPlates(pair[0], pair[1], 1, 1)
			wantBool(t, "ShieldedPlates of "+tell(f), ok, false)
		}
	}
}
