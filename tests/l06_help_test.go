package tests

import (
	"slices"
	"strconv"
	"strings"

	"loop.example/g01309/impl"
)

// partsOf cuts a text at a mark; - has no parts.
func partsOf(text, mark string) []string {
	if text == "-" {
		return nil
	}
	return strings.Split(text, mark)
}

// houseOf reads a house as roomCase has it.
func houseOf(text string) impl.House {
	parts := strings.Split(text, ";")
	h := impl.House{Warms: listOf(parts[0]), Holds: listOf(parts[1]), Leaks: listOf(parts[2])}
	for _, part := range partsOf(parts[3], "/") {
		h.Links = append(h.Links, linkOf(part))
	}
	return h
}

func linkOf(text string) impl.Link {
	parts := strings.Split(text, ":")
	return impl.Link{A: wholeOf(parts[0]), B: wholeOf(parts[1]), Pass: numbers(parts[2])[0]}
}

// heatersOf reads heaters as roomCase has them.
func heatersOf(text string) []impl.Heater {
	var list []impl.Heater
	for _, part := range partsOf(text, "/") {
		words := strings.Split(part, ":")
		list = append(list, impl.Heater{
			Room: wholeOf(words[0]), Power: numbers(words[1])[0],
			Low: numbers(words[2])[0], High: numbers(words[3])[0], On: words[4] == "1",
		})
	}
	return list
}

func wholesOf(text string) []int64 {
	var list []int64
	for _, part := range partsOf(text, ",") {
		list = append(list, wholeOf(part))
	}
	return list
}

// joined writes parts with a mark between them, and - for none.
func joined(parts []string, mark string) string {
	if len(parts) == 0 {
		return "-"
	}
	return strings.Join(parts, mark)
}

// orFail writes what a function returns, and fail for what has failed.
func orFail(ok bool, words ...string) string {
	if !ok {
		return "fail"
	}
	return strings.Join(words, " ")
}

func whole(n int64) string { return strconv.FormatInt(n, 10) }

func wholes(list []int64) string {
	var words []string
	for _, n := range list {
		words = append(words, whole(n))
	}
	return joined(words, ",")
}

func linksText(list []impl.Link) string {
	var words []string
	for _, l := range list {
		words = append(words, whole(l.A)+":"+whole(l.B)+":"+digits(l.Pass))
	}
	return joined(words, "/")
}

func houseText(h impl.House) string {
	return strings.Join([]string{toldList(h.Warms, true), toldList(h.Holds, true), toldList(h.Leaks, true), linksText(h.Links)}, ";")
}

func heatersText(list []impl.Heater) string {
	var words []string
	for _, x := range list {
		on := "0"
		if x.On {
			on = "1"
		}
		words = append(words, strings.Join([]string{whole(x.Room), digits(x.Power), digits(x.Low), digits(x.High), on}, ":"))
	}
	return joined(words, "/")
}

func toldHouse(h impl.House, ok bool) string { return orFail(ok, houseText(h)) }

func toldWhole(n int64, ok bool) string { return orFail(ok, whole(n)) }

func toldWholes(list []int64, ok bool) string { return orFail(ok, wholes(list)) }

func toldTurned(x impl.Heater, power float32, ok bool) string {
	return orFail(ok, heatersText([]impl.Heater{x}), digits(power))
}

func toldHeated(h impl.House, list []impl.Heater, counts []int64, ok bool) string {
	return orFail(ok, houseText(h), heatersText(list), wholes(counts))
}

func toldPower(power, brought float32, ok bool) string {
	return orFail(ok, digits(power), digits(brought))
}

func toldPlan(units []int64, cost int64, ok bool) string {
	return orFail(ok, wholes(units), whole(cost))
}

// roomOutcome writes what a function of chapter 6 returns for the arguments of a case.
func roomOutcome(name, arguments string) string {
	words := strings.Fields(arguments)
	x := func(i int) float32 { return numbers(words[i])[0] }
	list := func(i int) []float32 { return listOf(words[i]) }
	h := func(i int) impl.House { return houseOf(words[i]) }
	heaters := func(i int) []impl.Heater { return heatersOf(words[i]) }
	switch name {
	case "ValidHouse":
		return toldBool(impl.ValidHouse(h(0)))
	case "SameHouse":
		return toldBool(impl.SameHouse(h(0), h(1)))
	case "RowHouse":
		return toldHouse(impl.RowHouse(wholeOf(words[0]), x(1), x(2), x(3), x(4)))
	case "AddLink":
		return toldHouse(impl.AddLink(h(0), linkOf(words[1])))
	case "SetLeak":
		return toldHouse(impl.SetLeak(h(0), wholeOf(words[1]), x(2)))
	case "FlowToRoom":
		return toldNumber(impl.FlowToRoom(h(0), wholeOf(words[1]), x(2)))
	case "LossOfHouse":
		return toldNumber(impl.LossOfHouse(h(0), x(1)))
	case "HeatOfHouse":
		return toldNumber(impl.HeatOfHouse(h(0)))
	case "StepHouse":
		return toldHouse(impl.StepHouse(h(0), list(1), x(2), x(3)))
	case "RestHouse":
		return toldHouse(impl.RestHouse(h(0), list(1), x(2)))
	case "LinkedRooms":
		return toldWholes(impl.LinkedRooms(h(0), wholeOf(words[1])))
	case "ValidHeater":
		return toldBool(impl.ValidHeater(heaters(0)[0]))
	case "SameHeaters":
		return toldBool(impl.SameHeaters(heaters(0), heaters(1)))
	case "TurnHeater":
		return toldTurned(impl.TurnHeater(heaters(0)[0], x(1)))
	case "RunHeaters":
		return toldHeated(impl.RunHeaters(h(0), heaters(1), list(2), x(3)))
	case "NeedFor":
		return toldList(impl.NeedFor(h(0), list(1), x(2)))
	case "PumpFactor":
		return toldNumber(impl.PumpFactor(x(0), x(1), x(2)))
	case "PumpPower":
		return toldPower(impl.PumpPower(x(0), x(1), x(2), x(3), x(4)))
	case "DegreeSum":
		return toldNumber(impl.DegreeSum(list(0), x(1)))
	}
	return billOutcome(name, words)
}

// billOutcome writes what a function of exact integers of chapter 6 returns.
func billOutcome(name string, words []string) string {
	n := func(i int) int64 { return wholeOf(words[i]) }
	list := func(i int) []int64 { return wholesOf(words[i]) }
	switch name {
	case "ArePrices":
		return toldBool(impl.ArePrices(list(0)))
	case "CostOf":
		return toldWhole(impl.CostOf(list(0), list(1)))
	case "CheapHours":
		return toldWholes(impl.CheapHours(list(0), n(1)))
	case "PlanUnits":
		return toldPlan(impl.PlanUnits(list(0), list(1), n(2)))
	case "BlockBill":
		return toldWhole(impl.BlockBill(n(0), list(1), list(2)))
	case "ShareBill":
		return toldWholes(impl.ShareBill(n(0), list(1)))
	}
	panic("a function that billOutcome does not know")
}

func link(a, b int64, pass float32) impl.Link { return impl.Link{A: a, B: b, Pass: pass} }

// houseWith returns a house of rooms that hold 1, leak 1 and have no links.
func houseWith(warms ...float32) impl.House {
	ones := slices.Repeat([]float32{1}, len(warms))
	return impl.House{Warms: warms, Holds: ones, Leaks: slices.Clone(ones)}
}

// linking returns a house with other links.
func linking(h impl.House, list ...impl.Link) impl.House {
	h.Links = list
	return h
}

// threeRooms returns a valid house.
func threeRooms() impl.House {
	h := linking(houseWith(20, 10, 15), link(0, 1, 2), link(2, 1, 0.5))
	h.Holds, h.Leaks = []float32{2, 4, 8}, []float32{0.5, 0, 1}
	return h
}

func heater(room int64, power, low, high float32) impl.Heater {
	return impl.Heater{Room: room, Power: power, Low: low, High: high}
}

func turnedOn(x impl.Heater) impl.Heater {
	x.On = true
	return x
}

// house returns a house whose rooms are all linked, some of them twice.
func (s *somewhere) house(rooms int64) impl.House {
	var h impl.House
	for room := range rooms {
		h.Warms = append(h.Warms, s.number(-10, 30))
		h.Holds = append(h.Holds, s.number(0.5, 4))
		h.Leaks = append(h.Leaks, s.number(0.1, 1))
		if room > 0 {
			h.Links = append(h.Links, link(s.whole(0, room-1), room, s.number(0.2, 2)))
		}
	}
	for rooms > 1 && len(h.Links) < 12 {
		a := s.whole(0, rooms-1)
		h.Links = append(h.Links, link(a, (a+s.whole(1, rooms-1))%rooms, s.number(0.2, 2)))
	}
	return h
}

func (s *somewhere) list(count int, low, high float64) []float32 {
	var list []float32
	for range count {
		list = append(list, s.number(low, high))
	}
	return list
}

func (s *somewhere) wholes(count int, low, high int64) []int64 {
	var list []int64
	for range count {
		list = append(list, s.whole(low, high))
	}
	return list
}

// invalidHouses are houses each of which is wrong in one way.
func invalidHouses() []impl.House {
	list := []impl.House{{}, houseWith(make([]float32, 9)...), linking(threeRooms(), slices.Repeat([]impl.Link{link(0, 1, 1)}, 25)...)}
	for part := range 3 {
		for _, count := range []int{0, 1, 2, 4, 8} {
			h := houseWith(1, 2, 3)
			*[]*[]float32{&h.Warms, &h.Holds, &h.Leaks}[part] = slices.Repeat([]float32{1}, count)
			list = append(list, h)
		}
	}
	for _, rooms := range [][2]int64{{0, 0}, {2, 2}, {0, 3}, {3, 0}, {-1, 0}, {0, -1}, {1, 8}, {3, 4}, {1 << 32, 0}, {0, 1<<32 + 1}} {
		list = append(list, linking(threeRooms(), link(0, 1, 1), link(rooms[0], rooms[1], 1)))
	}
	list = append(list, linking(houseWith(1), link(0, 0, 1)), linking(houseWith(1), link(0, 1, 1)))
	for _, bits := range []uint32{plusZero, minusZero, 0x80000001, bitsOf(-1), plusInf, minusInf, nanBits} {
		x := num(bits)
		for room := range 3 {
			warm, hold, leak := threeRooms(), threeRooms(), threeRooms()
			warm.Warms[room], hold.Holds[room], leak.Leaks[room] = x, x, x
			list = append(list, hold)
			if x-x != 0 {
				list = append(list, warm)
			}
			if x != 0 {
				list = append(list, leak)
			}
		}
		list = append(list, linking(threeRooms(), link(0, 1, x), link(2, 1, 1)), linking(threeRooms(), link(0, 1, 1), link(2, 1, x)))
	}
	return list
}

// invalidHeaters are heaters each of which is wrong in one way.
func invalidHeaters() []impl.Heater {
	list := []impl.Heater{{}, heater(0, 1, 20, 20), heater(0, 1, 20, 18), heater(0, 1, 0, num(minusZero)), heater(0, 1, num(minusZero), 0)}
	for _, room := range []int64{-1, 8, 1 << 32, -1 << 63, 1<<63 - 1} {
		list = append(list, heater(room, 1, 18, 20))
	}
	for _, bits := range []uint32{0x80000001, bitsOf(-1), plusInf, minusInf, nanBits} {
		x := num(bits)
		list = append(list, heater(0, x, 18, 20))
		if x-x != 0 {
			list = append(list, heater(0, 1, x, 20), heater(0, 1, 18, x))
		}
	}
	return list
}
