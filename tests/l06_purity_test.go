package tests

import (
	"math"
	"slices"
	"testing"

	"loop.example/g01309/impl"
)

// outcomesOfHouses calls all functions of chapter 6 that take houses and may fail.
func outcomesOfHouses(h impl.House, powers []float32, list []impl.Heater, outsides []float32, x, tick float32, n int64) []outcome {
	return []outcome{
		{"AddLink", all(impl.AddLink(h, link(n, 1, x)))},
		{"SetLeak", all(impl.SetLeak(h, n, tick))},
		{"FlowToRoom", all(impl.FlowToRoom(h, n, x))},
		{"LossOfHouse", all(impl.LossOfHouse(h, x))},
		{"HeatOfHouse", all(impl.HeatOfHouse(h))},
		{"StepHouse", all(impl.StepHouse(h, powers, x, tick))},
		{"RestHouse", all(impl.RestHouse(h, powers, x))},
		{"LinkedRooms", all(impl.LinkedRooms(h, n))},
		{"RunHeaters", all(impl.RunHeaters(h, list, outsides, tick))},
		{"NeedFor", all(impl.NeedFor(h, powers, x))},
	}
}

// outcomesOfWarmth calls all other functions of chapter 6 with numbers that may fail.
func outcomesOfWarmth(a impl.Heater, list []float32, x, y, z float32, n int64) []outcome {
	return []outcome{
		{"RowHouse", all(impl.RowHouse(n, x, y, z, x))},
		{"RowHouse of others", all(impl.RowHouse(n, z, z, x, y))},
		{"TurnHeater", all(impl.TurnHeater(a, x))},
		{"PumpFactor", all(impl.PumpFactor(x, y, z))},
		{"PumpPower", all(impl.PumpPower(y, x, z, 0.5, x))},
		{"PumpPower of others", all(impl.PumpPower(10, x, y, z, y))},
		{"DegreeSum", all(impl.DegreeSum(list, x))},
	}
}

// outcomesOfBills calls all functions of chapter 6 that tell exact integers and may fail.
func outcomesOfBills(prices, units []int64, n, k int64) []outcome {
	return []outcome{
		{"CostOf", all(impl.CostOf(units, prices))},
		{"CheapHours", all(impl.CheapHours(prices, n))},
		{"PlanUnits", all(impl.PlanUnits(prices, units, n))},
		{"BlockBill", all(impl.BlockBill(n, units, prices))},
		{"BlockBill with one block", all(impl.BlockBill(n, []int64{k}, []int64{n, k}))},
		{"ShareBill", all(impl.ShareBill(n, units))},
		{"ShareBill of another one", all(impl.ShareBill(k, prices))},
	}
}

func sameHeater(a, b impl.Heater) bool { return tell(a) == tell(b) }

func sameLinks(a, b impl.Link) bool {
	return linksText([]impl.Link{a}) == linksText([]impl.Link{b})
}

// houseWithRoom returns a copy of a house with unused capacity, and a function
// that reports whether the copy and its unused capacity are still as they were.
func houseWithRoom(h impl.House) (impl.House, func() bool) {
	warms, sameWarms := withRoom(h.Warms, sameBits)
	holds, sameHolds := withRoom(h.Holds, sameBits)
	leaks, sameLeaks := withRoom(h.Leaks, sameBits)
	links, same := withRoom(h.Links, sameLinks)
	return impl.House{Warms: warms, Holds: holds, Leaks: leaks, Links: links},
		func() bool { return sameWarms() && sameHolds() && sameLeaks() && same() }
}

// checkHouses calls all functions with houses twice, and checks what they return and that they leave the lists alone.
func checkHouses(t *testing.T, h impl.House, powers []float32, list []impl.Heater, outsides []float32, x, tick float32, n int64) {
	t.Helper()
	house, sameHouse := houseWithRoom(h)
	heats, sameHeats := withRoom(powers, sameBits)
	heaters, sameHeaters := withRoom(list, sameHeater)
	outs, sameOuts := withRoom(outsides, sameBits)
	checkTwice(t, func() []outcome { return outcomesOfHouses(house, heats, heaters, outs, x, tick, n) })
	wantBool(t, "ValidHouse", impl.ValidHouse(house), impl.ValidHouse(h))
	checkSame(t, "SameHouse", impl.SameHouse, house, h, true)
	checkSame(t, "SameHeaters", impl.SameHeaters, heaters, list, true)
	wantBool(t, "the lists are unchanged", sameHouse() && sameHeats() && sameHeaters() && sameOuts(), true)
}

// checkWarmth does the same with the functions of numbers.
func checkWarmth(t *testing.T, a impl.Heater, numbers []float32, x, y, z float32, n int64) {
	t.Helper()
	list, same := withRoom(numbers, sameBits)
	checkTwice(t, func() []outcome { return outcomesOfWarmth(a, list, x, y, z, n) })
	wantBool(t, "ValidHeater", impl.ValidHeater(a), impl.ValidHeater(a))
	wantBool(t, "the list is unchanged", same(), true)
}

// checkBills does the same with the functions of exact integers.
func checkBills(t *testing.T, prices, units []int64, n, k int64) {
	t.Helper()
	one, sameOne := withRoom(prices, equal[int64])
	other, sameOther := withRoom(units, equal[int64])
	checkTwice(t, func() []outcome { return outcomesOfBills(one, other, n, k) })
	wantBool(t, "ArePrices", impl.ArePrices(one), impl.ArePrices(prices))
	wantBool(t, "the lists are unchanged", sameOne() && sameOther(), true)
}

func TestP1HousesOfAllNumbers(t *testing.T) {
	for i, x := range strangeNumbers() {
		for k, y := range strangeNumbers() {
			odd := linking(houseWith(x, y, 1), link(0, 1, y), link(2, 1, 1))
			odd.Leaks[k%3], odd.Holds[i%3] = x, y
			list := []impl.Heater{{Room: 0, Power: x, Low: y, High: 20, On: true}, {Room: 2, Power: 1, Low: x, High: y}}
			checkHouses(t, odd, []float32{x, y, 1}, list, []float32{x}, y, x, int64(k%4))
			checkHouses(t, threeRooms(), []float32{x, y, 1}, list, []float32{1, y}, x, y, int64(i%4))
			checkHouses(t, linking(houseWith(x, y), link(1, 0, 2)), []float32{1, 2}, nil, []float32{2, 3}, x, 0.5, 0)
			checkHouses(t, linking(houseWith(3, 4), link(1, 0, x)), []float32{y, 2}, list[:1], []float32{y, 3}, 1, 0.5, 1)
			for _, z := range []float32{x, 0.25, num(greatest)} {
				checkWarmth(t, impl.Heater{Power: z, Low: x, High: y, On: k%2 == 0}, []float32{y, z}, x, y, z, int64(k%4))
				checkWarmth(t, impl.Heater{Power: y, Low: z, High: x, On: k%2 == 1}, []float32{x, 1, y}, z, x, y, int64(i%9))
			}
		}
	}
}

func TestP1HousesOfAllLengths(t *testing.T) {
	r := somewhere(131)
	for rooms := int64(1); rooms <= 8; rooms++ {
		checkHouses(t, r.house(rooms), r.list(int(rooms), 0, 9), r.heaters(4, rooms), r.list(7, 0, 9), 3, 0.1, 0)
	}
	lengths := []int{0, 1, 2, 3, 7, 8, 9, 24, 25, 95, 96, 97, 5000}
	for _, count := range lengths {
		for _, size := range lengths {
			h := linking(houseWith(make([]float32, count)...), slices.Repeat([]impl.Link{link(0, 1, 1)}, size)...)
			list := slices.Repeat([]impl.Heater{heater(0, 1, 18, 20)}, size)
			checkHouses(t, h, make([]float32, size), nil, make([]float32, size), 1, 0.5, 0)
			checkHouses(t, threeRooms(), make([]float32, count), list, make([]float32, count), 1, 0.5, 1)
			checkBills(t, make([]int64, count), slices.Repeat([]int64{1}, size), int64(count), int64(size))
		}
		checkWarmth(t, heater(0, 1, 18, 20), make([]float32, count), 1, 0.5, 1, int64(count))
	}
	for _, h := range invalidHouses() {
		checkHouses(t, h, []float32{1, 2, 3}, []impl.Heater{heater(1, 1, 18, 20)}, []float32{4}, 1, 0.5, 1)
		checkHouses(t, h, nil, nil, nil, 1, 0.5, 0)
	}
}

func TestP1HousesWithAllIntegers(t *testing.T) {
	list := []int64{math.MinInt64, math.MinInt64 + 1, -1 << 32, -1, 0, 1, 2, 3, 7, 8, 9, 96, 97, 1000000, 1000001, 1 << 31, 1 << 32, 1<<32 + 1, 1 << 62, math.MaxInt64}
	for _, n := range list {
		checkHouses(t, threeRooms(), []float32{1, 2, 3}, []impl.Heater{heater(n, 1, 18, 20)}, []float32{4}, 1, 0.5, n)
		checkWarmth(t, heater(n, 1, 18, 20), []float32{1}, 1, 0.5, 1, n)
		for _, k := range list {
			h := linking(houseWith(1, 2), link(n, k, 1))
			checkHouses(t, h, []float32{1, 2}, nil, []float32{3}, 1, 0.5, 1)
			checkBills(t, []int64{n, k}, []int64{k, n}, n, k)
			checkBills(t, []int64{n, 3}, []int64{k}, k, n)
			checkBills(t, []int64{1, 2}, []int64{3, k}, n, k)
		}
	}
}

// TestP1InvalidHousesFail checks that no function takes an invalid house.
func TestP1InvalidHousesFail(t *testing.T) {
	heaters := []impl.Heater{heater(1, 1, 18, 20)}
	for _, o := range outcomesOfHouses(threeRooms(), []float32{1, 2, 3}, heaters, []float32{4}, 1, 0.5, 0) {
		wantBool(t, o.name+" of a valid house", o.ok(), true)
	}
	for _, h := range invalidHouses() {
		for _, powers := range [][]float32{nil, {1}, {1, 2, 3}} {
			for _, n := range []int64{0, 1} {
				for _, o := range outcomesOfHouses(h, powers, nil, nil, 1, 0.5, n) {
					wantBool(t, o.name+" of "+tell(h), o.ok(), false)
				}
			}
		}
	}
}

func TestP1EmptyListsOfHousesAreNil(t *testing.T) {
	none, no := []float32{}, []int64{}
	empty := impl.House{Warms: none, Holds: none, Leaks: none, Links: []impl.Link{}}
	for _, h := range []impl.House{houseWith(3, 4), linking(houseWith(3, 4), []impl.Link{}...)} {
		for i, o := range outcomesOfHouses(h, none, []impl.Heater{}, none, 1, 0.5, 0) {
			wantText(t, o.name, tell(o.values...), tell(outcomesOfHouses(houseWith(3, 4), nil, nil, nil, 1, 0.5, 0)[i].values...))
		}
	}
	for i, o := range outcomesOfHouses(empty, none, nil, nil, 1, 0.5, 0) {
		wantText(t, o.name+" of nothing", tell(o.values...), tell(outcomesOfHouses(impl.House{}, nil, nil, nil, 1, 0.5, 0)[i].values...))
	}
	for i, o := range outcomesOfBills(no, no, 0, 0) {
		wantText(t, o.name, tell(o.values...), tell(outcomesOfBills(nil, nil, 0, 0)[i].values...))
	}
	wantText(t, "BlockBill without blocks", toldWhole(impl.BlockBill(4, no, []int64{3})), toldWhole(impl.BlockBill(4, nil, []int64{3})))
	wantBool(t, "ValidHouse", impl.ValidHouse(empty) || impl.ValidHouse(impl.House{}), false)
	wantBool(t, "ArePrices", impl.ArePrices(no) || impl.ArePrices(nil), false)
}

func TestP1ResultsOfHousesAreNew(t *testing.T) {
	for _, h := range []impl.House{threeRooms(), houseWith(1, 2, 3), linking(houseWith(5, 6, 7), link(2, 0, 1))} {
		for _, outsides := range [][]float32{nil, {4}, {4, 5}} {
			house, sameHouse := houseWithRoom(h)
			powers, samePowers := withRoom([]float32{1, 2, 3}, sameBits)
			heaters, sameHeaters := withRoom([]impl.Heater{heater(1, 1, 18, 20), heater(0, 2, 3, 4)}, sameHeater)
			outs, sameOuts := withRoom(outsides, sameBits)
			calls := func() []outcome { return outcomesOfHouses(house, powers, heaters, outs, 1, 0.5, 0) }
			for i, o := range calls() {
				wantNewLists(t, o.name, func() []any { return calls()[i].values })
				overwrite(calls()[i].values)
				wantBool(t, o.name+" returns new memory", sameHouse() && samePowers() && sameHeaters() && sameOuts(), true)
				wantText(t, o.name+" called again", tell(calls()[i].values...), tell(o.values...))
			}
		}
	}
	prices, samePrices := withRoom([]int64{3, 1, 2}, equal[int64])
	units, sameUnits := withRoom([]int64{4, 5, 6}, equal[int64])
	for n := range int64(4) {
		calls := func() []outcome { return outcomesOfBills(prices, units, n, 7) }
		for i, o := range calls() {
			want := tell(o.values...)
			overwrite(o.values)
			wantBool(t, o.name+" returns new memory", samePrices() && sameUnits(), true)
			wantText(t, o.name+" called again", tell(calls()[i].values...), want)
		}
	}
}
