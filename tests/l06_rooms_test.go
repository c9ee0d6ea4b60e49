package tests

import (
	"math"
	"slices"
	"testing"

	"loop.example/g01309/impl"
)

// TestChapter6Examples asserts the examples at the end of chapter 6.
func TestChapter6Examples(t *testing.T) {
	one := houseWith(0)
	rest, ok := impl.RestHouse(one, []float32{4}, 0)
	wantText(t, "a house of one room at rest", toldList(rest.Warms, ok), told([]float32{4}, true))
	off := heater(0, 4, 18, 20)
	wantText(t, "a heater that stays off", toldTurned(impl.TurnHeater(off, 19)), toldTurned(off, 0, true))
	wantText(t, "two cheap hours", toldWholes(impl.CheapHours([]int64{3, 1, 2}, 2)), "1,2")
	wantText(t, "a bill by blocks", toldWhole(impl.BlockBill(12, []int64{10}, []int64{2, 5})), "30")
}

func TestChapter6Limits(t *testing.T) {
	if impl.MaxRooms != 8 || impl.MaxLinks != 24 || impl.MaxHours != 96 || impl.MaxPrice != 1000000 {
		t.Error("a constant is not as the chapter has it")
	}
}

func TestP7RoomsByTheirBits(t *testing.T) {
	for _, c := range roomCases {
		wantText(t, c.name+" of "+c.arguments, roomOutcome(c.name, c.arguments), c.want)
	}
}

func TestP7ValidHouses(t *testing.T) {
	for count := range 12 {
		h := houseWith(make([]float32, count)...)
		wantBool(t, "ValidHouse of some rooms", impl.ValidHouse(h), count >= 1 && count <= 8)
	}
	for count := range 40 {
		h := linking(threeRooms(), slices.Repeat([]impl.Link{link(1, 2, 0.5)}, count)...)
		wantBool(t, "ValidHouse of some links", impl.ValidHouse(h), count <= 24)
	}
	edge := linking(houseWith(num(greatest), num(0xff7fffff), num(minusZero)), link(0, 2, num(greatest)), link(2, 0, num(leastBits)))
	edge.Holds, edge.Leaks = []float32{num(leastBits), num(greatest), 1}, []float32{num(minusZero), 0, num(greatest)}
	wantBool(t, "ValidHouse of edges", impl.ValidHouse(edge), true)
	for _, h := range invalidHouses() {
		wantBool(t, "ValidHouse of "+tell(h), impl.ValidHouse(h), false)
	}
}

// numbersOfHouse returns where all numbers of a house are.
func numbersOfHouse(h *impl.House) []*float32 {
	var list []*float32
	for _, part := range [][]float32{h.Warms, h.Holds, h.Leaks} {
		for i := range part {
			list = append(list, &part[i])
		}
	}
	for i := range h.Links {
		list = append(list, &h.Links[i].Pass)
	}
	return list
}

// checkSame checks whether two values are the same, in both orders.
func checkSame[T any](t *testing.T, what string, same func(a, b T) bool, a, b T, want bool) {
	t.Helper()
	wantBool(t, what, same(a, b), want)
	wantBool(t, what+", the other way round", same(b, a), want)
}

func TestP7SameHouse(t *testing.T) {
	checkSame(t, "SameHouse of equal ones", impl.SameHouse, threeRooms(), threeRooms(), true)
	first := threeRooms()
	for place := range numbersOfHouse(&first) {
		for _, pair := range []struct {
			a, b uint32
			want bool
		}{
			{oneBits, oneBits, true}, {oneBits, oneBits + 1, false}, {plusZero, minusZero, false}, {minusZero, minusZero, true},
			{nanBits, 0xffc00001, true}, {nanBits, plusInf, false}, {minusInf, minusInf, true}, {plusInf, minusInf, false},
		} {
			one, other := threeRooms(), threeRooms()
			*numbersOfHouse(&one)[place], *numbersOfHouse(&other)[place] = num(pair.a), num(pair.b)
			checkSame(t, "SameHouse of "+tell(one, other), impl.SameHouse, one, other, pair.want)
		}
	}
	for place := range 2 {
		for _, rooms := range [][2]int64{{1, 0}, {0, 2}, {7, 1}, {0, -1}, {0, 1<<32 + 1}} {
			other := threeRooms()
			other.Links[place].A, other.Links[place].B = rooms[0], rooms[1]
			checkSame(t, "SameHouse of "+tell(other), impl.SameHouse, threeRooms(), other, false)
			checkSame(t, "SameHouse of "+tell(other), impl.SameHouse, other, linking(other, slices.Clone(other.Links)...), true)
		}
	}
	for part := range 4 {
		for _, count := range []int{0, 2, 4} {
			other := threeRooms()
			switch lists := []*[]float32{&other.Warms, &other.Holds, &other.Leaks}; part {
			case 3:
				other.Links = slices.Repeat(other.Links[:1], count*3/4)
			default:
				*lists[part] = append(*lists[part], 1)[:count]
			}
			checkSame(t, "SameHouse of "+tell(other), impl.SameHouse, threeRooms(), other, false)
		}
	}
	links := threeRooms().Links
	checkSame(t, "SameHouse in another order", impl.SameHouse, threeRooms(), linking(threeRooms(), links[1], links[0]), false)
	checkSame(t, "SameHouse of nothing", impl.SameHouse, impl.House{}, houseWith(), true)
	many := linking(houseWith(make([]float32, 50)...), slices.Repeat(links, 50)...)
	checkSame(t, "SameHouse of what is no house", impl.SameHouse, many, linking(many, slices.Clone(many.Links)...), true)
}

func TestP7HousesInRows(t *testing.T) {
	for count := int64(1); count <= 8; count++ {
		h, ok := impl.RowHouse(count, 2, 0.5, 3, -4)
		want := impl.House{}
		for room := range count {
			want.Warms, want.Holds, want.Leaks = append(want.Warms, -4), append(want.Holds, 2), append(want.Leaks, 0.5)
			if room > 0 {
				want.Links = append(want.Links, link(room-1, room, 3))
			}
		}
		wantText(t, "RowHouse", toldHouse(h, ok), toldHouse(want, true))
		all, _ := impl.LinkedRooms(h, 0)
		wantBool(t, "all rooms of a row are linked", int64(len(all)) == count, true)
	}
	for _, count := range []int64{0, -1, 9, 1<<32 + 1, math.MinInt64, math.MaxInt64} {
		_, ok := impl.RowHouse(count, 2, 0.5, 3, -4)
		wantBool(t, "RowHouse of "+whole(count)+" rooms", ok, false)
	}
}

// TestP7HousesOfOneRoom checks that a single room has no links, but all else that rooms have.
func TestP7HousesOfOneRoom(t *testing.T) {
	for _, bits := range []uint32{plusZero, minusZero, 0x80000001, bitsOf(-1), plusInf, minusInf, nanBits} {
		h, ok := impl.RowHouse(1, 2, 0.5, num(bits), 7)
		wantBool(t, "RowHouse of one room with the pass "+hex(bits), ok, num(bits)-num(bits) == 0)
		wantBool(t, "RowHouse of one room has no links", len(h.Links) == 0, true)
		_, ok = impl.RowHouse(2, 2, 0.5, num(bits), 7)
		wantBool(t, "RowHouse of two rooms with the pass "+hex(bits), ok, false)
	}
	one, _ := impl.RowHouse(1, 2, 0.5, 1, 7)
	for _, l := range []impl.Link{link(0, 0, 1), link(0, 1, 1), link(1, 0, 1), link(-1, 0, 1)} {
		_, ok := impl.AddLink(one, l)
		wantBool(t, "AddLink to one room", ok, false)
	}
	wantText(t, "LinkedRooms", toldWholes(impl.LinkedRooms(one, 0)), "0")
	wantText(t, "FlowToRoom", toldNumber(impl.FlowToRoom(one, 0, 3)), toldNumber(-2, true))
	wantText(t, "LossOfHouse", toldNumber(impl.LossOfHouse(one, 3)), toldNumber(2, true))
	wantText(t, "HeatOfHouse", toldNumber(impl.HeatOfHouse(one)), toldNumber(14, true))
	wantText(t, "NeedFor", toldList(impl.NeedFor(one, []float32{9}, 3)), told([]float32{3}, true))
	step, ok := impl.StepHouse(one, []float32{6}, 3, 0.5)
	wantText(t, "StepHouse", toldList(step.Warms, ok), told([]float32{8}, true))
	rest, ok := impl.RestHouse(one, []float32{6}, 3)
	wantText(t, "RestHouse", toldList(rest.Warms, ok), told([]float32{15}, true))
	for _, zero := range []float32{0, num(minusZero)} {
		tight, ok := impl.SetLeak(one, 0, zero)
		wantText(t, "SetLeak", toldList(tight.Leaks, ok), told([]float32{zero}, true))
		for _, power := range []float32{0, 1, -1} {
			_, ok = impl.RestHouse(tight, []float32{power}, 3)
			wantBool(t, "RestHouse of a room without a leak", ok, false)
		}
		step, ok = impl.StepHouse(tight, []float32{6}, 3, 0.5)
		wantText(t, "StepHouse of a room without a leak", toldList(step.Warms, ok), told([]float32{8.5}, true))
	}
	for _, room := range []int64{-1, 1, 7, 1 << 32} {
		_, linked := impl.LinkedRooms(one, room)
		_, flows := impl.FlowToRoom(one, room, 3)
		_, set := impl.SetLeak(one, room, 1)
		_, _, _, run := impl.RunHeaters(one, []impl.Heater{heater(room, 1, 2, 3)}, nil, 1)
		wantBool(t, "the room "+whole(room), linked || flows || set || run, false)
	}
}

func TestP7LinksAreAdded(t *testing.T) {
	h := threeRooms()
	for count := len(h.Links); count < 24; count++ {
		l := link(int64(count)%3, int64(count+1)%3, float32(count))
		more, ok := impl.AddLink(h, l)
		wantText(t, "AddLink", toldHouse(more, ok), toldHouse(linking(h, append(slices.Clone(h.Links), l)...), true))
		h = more
	}
	_, ok := impl.AddLink(h, link(0, 1, 1))
	wantBool(t, "AddLink to 24 links", ok, false)
	for _, l := range []impl.Link{
		link(0, 0, 1), link(0, 3, 1), link(3, 0, 1), link(-1, 0, 1), link(1<<32, 1, 1),
		link(0, 1, 0), link(0, 1, num(minusZero)), link(0, 1, -1), link(0, 1, num(plusInf)), link(0, 1, num(nanBits)),
	} {
		_, ok := impl.AddLink(threeRooms(), l)
		wantBool(t, "AddLink of "+linksText([]impl.Link{l}), ok, false)
	}
}

func TestP7LeaksAreSet(t *testing.T) {
	for room := range int64(3) {
		for _, leak := range []float32{0, num(minusZero), num(leastBits), 2, num(greatest)} {
			want := threeRooms()
			want.Leaks[room] = leak
			wantText(t, "SetLeak", toldHouse(impl.SetLeak(threeRooms(), room, leak)), toldHouse(want, true))
		}
		for _, bits := range []uint32{0x80000001, bitsOf(-1), plusInf, minusInf, nanBits} {
			_, ok := impl.SetLeak(threeRooms(), room, num(bits))
			wantBool(t, "SetLeak to "+hex(bits), ok, false)
			h := threeRooms()
			h.Leaks[room] = num(bits)
			_, ok = impl.SetLeak(h, room, 1)
			wantBool(t, "SetLeak of a house that becomes valid", ok, false)
		}
	}
	for _, room := range []int64{-1, 3, 8, 1 << 32} {
		_, ok := impl.SetLeak(threeRooms(), room, 1)
		wantBool(t, "SetLeak of the room "+whole(room), ok, false)
	}
}

// sizeOfFlows tells how much heat flows in a house, for how near sums must be.
func sizeOfFlows(h impl.House, outside float32) float64 {
	size := 1.0
	for room, leak := range h.Leaks {
		size += math.Abs(float64(leak * (h.Warms[room] - outside)))
	}
	for _, l := range h.Links {
		size += math.Abs(float64(l.Pass * (h.Warms[l.A] - h.Warms[l.B])))
	}
	return size
}

// TestP7FlowsToRoomsAreWhatTheHouseLoses checks that what flows in links is lost nowhere.
func TestP7FlowsToRoomsAreWhatTheHouseLoses(t *testing.T) {
	r := somewhere(101)
	for range 50 {
		for rooms := int64(1); rooms <= 8; rooms++ {
			h, outside := r.house(rooms), r.number(-20, 20)
			sum := 0.0
			for room := range rooms {
				flow, ok := impl.FlowToRoom(h, room, outside)
				wantBool(t, "FlowToRoom", ok, true)
				sum += float64(flow)
			}
			loss, ok := impl.LossOfHouse(h, outside)
			wantBool(t, "LossOfHouse", ok, true)
			wantNear(t, "LossOfHouse", loss, -sum, 1e-6*sizeOfFlows(h, outside))
		}
	}
	h := threeRooms()
	for room, want := range []float32{-0.5*20 - 2*10, 2*10 + 0.5*5, -15 - 0.5*5} {
		wantText(t, "FlowToRoom", toldNumber(impl.FlowToRoom(h, int64(room), 0)), toldNumber(want, true))
	}
	wantText(t, "LossOfHouse", toldNumber(impl.LossOfHouse(h, 0)), toldNumber(25, true))
	wantText(t, "HeatOfHouse", toldNumber(impl.HeatOfHouse(h)), toldNumber(200, true))
}

// TestP7TicksKeepHeat checks that a house has the more heat the more comes in.
func TestP7TicksKeepHeat(t *testing.T) {
	r := somewhere(102)
	for range 50 {
		for rooms := int64(1); rooms <= 8; rooms++ {
			h, outside, tick := r.house(rooms), r.number(-20, 20), r.number(0, 0.5)
			powers := r.list(int(rooms), -5, 20)
			next, ok := impl.StepHouse(h, powers, outside, tick)
			wantBool(t, "StepHouse", ok, true)
			wantText(t, "a tick leaves all else", houseText(impl.House{Warms: h.Warms, Holds: next.Holds, Leaks: next.Leaks, Links: next.Links}), houseText(h))
			before, _ := impl.HeatOfHouse(h)
			after, _ := impl.HeatOfHouse(next)
			loss, _ := impl.LossOfHouse(h, outside)
			gain, size := -float64(loss), sizeOfFlows(h, outside)
			for room, power := range powers {
				gain += float64(power)
				size += math.Abs(float64(power)) + math.Abs(float64(h.Holds[room]*h.Warms[room]))
			}
			wantNear(t, "HeatOfHouse", after, float64(before)+float64(tick)*gain, 1e-6*size)
			stays, ok := impl.StepHouse(h, powers, outside, 0)
			wantText(t, "a tick of 0", toldHouse(stays, ok), toldHouse(h, true))
		}
	}
}

func TestP7TicksAreChecked(t *testing.T) {
	h := threeRooms()
	for _, bits := range []uint32{0x80000001, bitsOf(-1), plusInf, minusInf, nanBits} {
		_, ok := impl.StepHouse(h, make([]float32, 3), 1, num(bits))
		wantBool(t, "StepHouse with the tick "+hex(bits), ok, false)
		_, _, _, ok = impl.RunHeaters(h, nil, nil, num(bits))
		wantBool(t, "RunHeaters with the tick "+hex(bits), ok, false)
		if x := num(bits); x-x != 0 {
			_, ok = impl.StepHouse(h, make([]float32, 3), x, 0)
			wantBool(t, "StepHouse with the outside "+hex(bits), ok, false)
			for room := range 3 {
				powers := make([]float32, 3)
				powers[room] = x
				_, ok = impl.StepHouse(h, powers, 1, 0)
				wantBool(t, "StepHouse with the power "+hex(bits), ok, false)
				_, ok = impl.RestHouse(h, powers, 1)
				wantBool(t, "RestHouse with the power "+hex(bits), ok, false)
				_, ok = impl.NeedFor(h, powers, 1)
				wantBool(t, "NeedFor the goal "+hex(bits), ok, false)
			}
			_, rests := impl.RestHouse(h, make([]float32, 3), x)
			_, needs := impl.NeedFor(h, make([]float32, 3), x)
			_, loses := impl.LossOfHouse(h, x)
			_, flows := impl.FlowToRoom(h, 1, x)
			wantBool(t, "the outside "+hex(bits), rests || needs || loses || flows, false)
		}
	}
	for count := range 12 {
		_, steps := impl.StepHouse(h, make([]float32, count), 1, 1)
		_, rests := impl.RestHouse(h, make([]float32, count), 1)
		_, needs := impl.NeedFor(h, make([]float32, count), 1)
		if want := count == 3; steps != want || rests != want || needs != want {
			t.Errorf("%d powers or goals of three rooms: got %v, %v and %v", count, steps, rests, needs)
		}
	}
	wantText(t, "StepHouse with the tick -0", toldHouse(impl.StepHouse(h, make([]float32, 3), 1, num(minusZero))), toldHouse(h, true))
}

func TestP7FlowsThatAreTooGreatFail(t *testing.T) {
	hot := linking(houseWith(3e38, -3e38), link(0, 1, 1))
	hot.Leaks = []float32{0, 0}
	for room := range int64(2) {
		_, ok := impl.FlowToRoom(hot, room, 0)
		wantBool(t, "FlowToRoom", ok, false)
	}
	// Even a tick of 0 takes flows.
	_, ok := impl.StepHouse(hot, []float32{0, 0}, 0, 0)
	wantBool(t, "StepHouse", ok, false)
	_, ok = impl.NeedFor(linking(houseWith(1, 1), link(0, 1, 1)), []float32{3e38, -3e38}, 0)
	wantBool(t, "NeedFor", ok, false)
	_, ok = impl.LossOfHouse(houseWith(3e38, 3e38), 0)
	wantBool(t, "LossOfHouse", ok, false)
	_, ok = impl.HeatOfHouse(houseWith(3e38, 3e38))
	wantBool(t, "HeatOfHouse", ok, false)
	_, ok = impl.StepHouse(houseWith(0), []float32{3e38}, 0, 2)
	wantBool(t, "StepHouse to what is not finite", ok, false)
	_, ok = impl.RestHouse(houseWith(0), []float32{3e38}, 3e38)
	wantBool(t, "RestHouse of what is not finite", ok, false)
	leaking := houseWith(0)
	leaking.Leaks[0] = num(leastBits)
	_, ok = impl.RestHouse(leaking, []float32{1}, 0)
	wantBool(t, "RestHouse that is not finite", ok, false)
}

// TestP7HousesAtRestLoseWhatTheyGet checks that rest keeps the balance, stays, and is what steps lead to.
func TestP7HousesAtRestLoseWhatTheyGet(t *testing.T) {
	r := somewhere(103)
	for range 50 {
		for rooms := int64(1); rooms <= 8; rooms++ {
			h, outside := r.house(rooms), r.number(-20, 20)
			powers := r.list(int(rooms), -5, 20)
			rest, ok := impl.RestHouse(h, powers, outside)
			wantBool(t, "RestHouse", ok, true)
			wantText(t, "rest leaves all else", houseText(impl.House{Warms: h.Warms, Holds: rest.Holds, Leaks: rest.Leaks, Links: rest.Links}), houseText(h))
			sum := 0.0
			for _, power := range powers {
				sum += float64(power)
			}
			near := 2e-5 * sizeOfFlows(rest, outside) * float64(rooms)
			loss, _ := impl.LossOfHouse(rest, outside)
			wantNear(t, "what a house at rest loses", loss, sum, near)
			needs, ok := impl.NeedFor(h, rest.Warms, outside)
			wantBool(t, "NeedFor", ok && len(needs) == len(powers), true)
			next, _ := impl.StepHouse(rest, powers, outside, 0.1)
			for room, need := range needs {
				wantNear(t, "what holds a house at rest", need, float64(powers[room]), near)
				wantNear(t, "a tick of a house at rest", next.Warms[room], float64(rest.Warms[room]), near)
			}
		}
	}
}

func TestP7StepsLeadToRest(t *testing.T) {
	r := somewhere(104)
	for rooms := int64(1); rooms <= 4; rooms++ {
		h, outside := r.house(rooms), r.number(-20, 20)
		powers := r.list(int(rooms), -5, 20)
		rest, _ := impl.RestHouse(h, powers, outside)
		for range 20000 {
			h, _ = impl.StepHouse(h, powers, outside, 0.02)
		}
		for room, warm := range h.Warms {
			wantNear(t, "the warmth at last", warm, float64(rest.Warms[room]), 0.05)
		}
	}
}

func TestP7RestIsTheOutsideWithoutPowers(t *testing.T) {
	r := somewhere(105)
	for rooms := int64(1); rooms <= 8; rooms++ {
		h, outside := r.house(rooms), r.number(5, 20)
		rest, ok := impl.RestHouse(h, make([]float32, rooms), outside)
		wantBool(t, "RestHouse", ok, true)
		for _, warm := range rest.Warms {
			wantNear(t, "RestHouse without powers", warm, float64(outside), 1e-4)
		}
	}
}

func TestP7HousesWithoutLeaksDoNotRest(t *testing.T) {
	for count := int64(1); count <= 3; count++ {
		tight, _ := impl.RowHouse(count, 1, 0, 1, 5)
		_, ok := impl.RestHouse(tight, make([]float32, count), 3)
		wantBool(t, "RestHouse without leaks", ok, false)
		for room := range count {
			leaking, _ := impl.SetLeak(tight, room, 1)
			_, ok = impl.RestHouse(leaking, make([]float32, count), 3)
			wantBool(t, "RestHouse with a leak", ok, true)
		}
	}
	// The second room has neither a leak nor a link.
	apart := houseWith(1, 2)
	apart.Leaks[1] = 0
	_, ok := impl.RestHouse(apart, []float32{1, 0}, 3)
	wantBool(t, "RestHouse with a room of its own", ok, false)
}

// TestP7NeedsAreOppositeFlows checks the sign even of what is nothing.
func TestP7NeedsAreOppositeFlows(t *testing.T) {
	r := somewhere(106)
	for rooms := int64(1); rooms <= 8; rooms++ {
		h, goals, outside := r.house(rooms), r.list(int(rooms), 10, 25), r.number(-10, 10)
		needs, ok := impl.NeedFor(h, goals, outside)
		wantBool(t, "NeedFor", ok && int64(len(needs)) == rooms, true)
		held := h
		held.Warms = goals
		for room, need := range needs {
			flow, _ := impl.FlowToRoom(held, int64(room), outside)
			wantText(t, "NeedFor", digits(need), digits(-flow))
		}
	}
	wantText(t, "NeedFor nothing", toldList(impl.NeedFor(houseWith(1), []float32{7}, 7)), "80000000")
}

// linkedByHand tells which rooms are linked to a room, without a list of those to visit.
func linkedByHand(h impl.House, room int64) []int64 {
	linked := map[int64]bool{room: true}
	for range h.Warms {
		for _, l := range h.Links {
			if linked[l.A] || linked[l.B] {
				linked[l.A], linked[l.B] = true, true
			}
		}
	}
	var list []int64
	for other := range int64(len(h.Warms)) {
		if linked[other] {
			list = append(list, other)
		}
	}
	return list
}

func TestP7LinkedRooms(t *testing.T) {
	r := somewhere(107)
	for range 200 {
		rooms := r.whole(1, 8)
		h := houseWith(make([]float32, rooms)...)
		for count := r.whole(0, 8); rooms > 1 && count > 0; count-- {
			a := r.whole(0, rooms-1)
			h.Links = append(h.Links, link(a, (a+r.whole(1, rooms-1))%rooms, 1))
		}
		for room := range rooms {
			want := toldWholes(linkedByHand(h, room), true)
			wantText(t, "LinkedRooms of "+tell(h), toldWholes(impl.LinkedRooms(h, room)), want)
			back := linking(h, slices.Clone(h.Links)...)
			slices.Reverse(back.Links)
			wantText(t, "LinkedRooms in another order", toldWholes(impl.LinkedRooms(back, room)), want)
		}
		for _, room := range []int64{-1, rooms, 8, 1 << 32} {
			_, ok := impl.LinkedRooms(h, room)
			wantBool(t, "LinkedRooms of the room "+whole(room), ok, false)
		}
	}
}
