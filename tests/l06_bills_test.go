package tests

import (
	"math"
	"slices"
	"testing"

	"loop.example/g01309/impl"
)

// invalidAmounts are integers that are neither prices nor units.
func invalidAmounts() []int64 {
	return []int64{-1, 1000001, 1 << 32, -1 << 32, math.MinInt64, math.MaxInt64}
}

func TestP7Prices(t *testing.T) {
	for count := range 120 {
		for _, price := range []int64{0, 7, 1000000} {
			prices := slices.Repeat([]int64{price}, count)
			wantBool(t, "ArePrices", impl.ArePrices(prices), count >= 1 && count <= 96)
			cost, ok := impl.CostOf(prices, prices)
			wantBool(t, "CostOf", ok, count >= 1 && count <= 96)
			wantBool(t, "CostOf of equal hours", !ok || cost == int64(count)*price*price, true)
		}
	}
	for _, bad := range invalidAmounts() {
		for place := range 4 {
			list, good := []int64{1, 2, 3, 4}, []int64{1, 2, 3, 4}
			list[place] = bad
			wantBool(t, "ArePrices of "+wholes(list), impl.ArePrices(list), false)
			_, first := impl.CostOf(list, good)
			_, second := impl.CostOf(good, list)
			_, third := impl.CheapHours(list, 2)
			_, _, fourth := impl.PlanUnits(list, good, 1)
			_, _, fifth := impl.PlanUnits(good, list, 1)
			_, sixth := impl.BlockBill(5, good[:3], list)
			_, seventh := impl.BlockBill(5, list, append(good, 5))
			_, eighth := impl.ShareBill(5, list)
			if first || second || third || fourth || fifth || sixth || seventh || eighth {
				t.Errorf("%s: got %v %v %v %v %v %v %v %v", wholes(list), first, second, third, fourth, fifth, sixth, seventh, eighth)
			}
		}
	}
	for count := range 6 {
		_, costs := impl.CostOf(make([]int64, count), make([]int64, 3))
		_, _, plans := impl.PlanUnits(make([]int64, 3), make([]int64, count), 0)
		wantBool(t, "as many units as prices", costs && plans, count == 3)
		wantBool(t, "other units than prices", costs || plans, count == 3)
	}
	wantText(t, "CostOf", toldWhole(impl.CostOf([]int64{1, 0, 1000000}, []int64{3, 9, 1000000})), "1000000000003")
}

func TestP7CheapHours(t *testing.T) {
	r := somewhere(121)
	for range 200 {
		prices := r.wholes(int(r.whole(1, 30)), 0, r.whole(0, 9))
		for count := range int64(len(prices)) + 1 {
			hours, ok := impl.CheapHours(prices, count)
			wantBool(t, "CheapHours", ok && int64(len(hours)) == count, true)
			wantBool(t, "CheapHours are a set", slices.IsSorted(hours) && len(slices.Compact(slices.Clone(hours))) == len(hours), true)
			// Any hour that is left out is dearer than each one that is not, or equally dear and later.
			for other, price := range prices {
				for _, hour := range hours {
					if !slices.Contains(hours, int64(other)) && (price < prices[hour] || price == prices[hour] && int64(other) < hour) {
						t.Errorf("%d cheap hours of %s: got %s", count, wholes(prices), wholes(hours))
					}
				}
			}
		}
		for _, count := range []int64{-1, int64(len(prices)) + 1, 97, 1 << 32, math.MinInt64, math.MaxInt64} {
			_, ok := impl.CheapHours(prices, count)
			wantBool(t, "CheapHours of too many", ok, false)
		}
	}
	wantText(t, "CheapHours of equal ones", toldWholes(impl.CheapHours([]int64{5, 5, 5, 5}, 3)), "0,1,2")
	wantText(t, "no CheapHours", toldWholes(impl.CheapHours([]int64{5}, 0)), "-")
	_, ok := impl.CheapHours(nil, 0)
	wantBool(t, "CheapHours without prices", ok, false)
}

// leastCost tells, of all plans from an hour on, what the cheapest one costs, and false if there is none.
func leastCost(prices, most []int64, need int64) (int64, bool) {
	if len(prices) == 0 {
		return 0, need == 0
	}
	least, found := int64(math.MaxInt64), false
	for n := range min(most[0], need) + 1 {
		if rest, ok := leastCost(prices[1:], most[1:], need-n); ok {
			least, found = min(least, rest+n*prices[0]), true
		}
	}
	return least, found
}

// TestP7PlansCostLeast checks plans against all others that there are.
func TestP7PlansCostLeast(t *testing.T) {
	r := somewhere(122)
	for range 150 {
		count := int(r.whole(1, 4))
		prices, most := r.wholes(count, 0, 5), r.wholes(count, 0, 4)
		for need := range int64(18) {
			want, found := leastCost(prices, most, need)
			plan, cost, ok := impl.PlanUnits(prices, most, need)
			wantBool(t, "PlanUnits", ok, found)
			if !ok {
				continue
			}
			sum := int64(0)
			for hour, n := range plan {
				sum += n
				wantBool(t, "an hour of a plan", n >= 0 && n <= most[hour], true)
			}
			told, _ := impl.CostOf(plan, prices)
			if cost != want || told != cost || sum != need || len(plan) != count {
				t.Errorf("PlanUnits of %s, %s and %d: got %s, which costs %d, want %d", wholes(prices), wholes(most), need, wholes(plan), cost, want)
			}
		}
	}
}

func TestP7PlansFillTheFirstOfEqualHours(t *testing.T) {
	for _, c := range []struct {
		prices, most []int64
		need         int64
		want         string
	}{
		{[]int64{2, 2, 2}, []int64{4, 4, 4}, 6, "4,2,0 12"},
		{[]int64{2, 1, 2, 1}, []int64{3, 2, 3, 2}, 6, "2,2,0,2 8"},
		{[]int64{0, 0}, []int64{0, 5}, 5, "0,5 0"},
		{[]int64{3, 1, 2}, []int64{5, 2, 2}, 0, "0,0,0 0"},
		{[]int64{3, 1, 2}, []int64{5, 2, 2}, 9, "5,2,2 21"},
		{[]int64{3, 1, 2}, []int64{5, 2, 2}, 10, "fail"},
		{[]int64{3, 1, 2}, []int64{5, 2, 2}, -1, "fail"},
		{[]int64{1}, []int64{0}, 0, "0 0"},
		{[]int64{1}, []int64{0}, 1, "fail"},
		// More units than one hour may have.
		{[]int64{1000000, 1}, []int64{1000000, 1000000}, 2000000, "1000000,1000000 1000001000000"},
		{[]int64{1000000, 1}, []int64{1000000, 1000000}, 2000001, "fail"},
		{nil, nil, 0, "fail"},
	} {
		wantText(t, "PlanUnits of "+wholes(c.prices), toldPlan(impl.PlanUnits(c.prices, c.most, c.need)), c.want)
	}
	prices := slices.Repeat([]int64{1000000}, 97)
	plan, cost, ok := impl.PlanUnits(prices[:96], prices[:96], 96000000)
	wantBool(t, "PlanUnits of all that there is", ok && slices.Equal(plan, prices[:96]) && cost == 96000000000000, true)
	_, _, ok = impl.PlanUnits(prices, prices, 1)
	wantBool(t, "PlanUnits of 97 hours", ok, false)
	for _, need := range []int64{96000001, math.MaxInt64, math.MinInt64} {
		_, _, ok = impl.PlanUnits(prices[:96], prices[:96], need)
		wantBool(t, "PlanUnits of "+whole(need), ok, false)
	}
}

// billByHand adds the prices of single units.
func billByHand(units int64, blocks, prices []int64) int64 {
	bill, block, taken := int64(0), 0, int64(0)
	for range units {
		for block < len(blocks) && taken == blocks[block] {
			block, taken = block+1, 0
		}
		bill += prices[block]
		taken++
	}
	return bill
}

func TestP7BillsByBlocks(t *testing.T) {
	r := somewhere(123)
	for range 300 {
		count := int(r.whole(0, 16))
		blocks, prices := r.wholes(count, 1, 9), r.wholes(count+1, 0, 50)
		for _, units := range []int64{0, 1, 2, 9, 10, r.whole(3, 60), r.whole(30, 200)} {
			want := toldWhole(billByHand(units, blocks, prices), true)
			wantText(t, "BlockBill", toldWhole(impl.BlockBill(units, blocks, prices)), want)
		}
	}
	for count := range 20 {
		for more := range 4 {
			bill, ok := impl.BlockBill(20, slices.Repeat([]int64{1}, count), slices.Repeat([]int64{3}, count+more))
			wantBool(t, "BlockBill of some blocks and prices", ok, count <= 16 && more == 1)
			wantBool(t, "BlockBill with one price", !ok || bill == 60, true)
		}
	}
	for _, units := range invalidAmounts() {
		_, ok := impl.BlockBill(units, []int64{10}, []int64{2, 5})
		wantBool(t, "BlockBill of "+whole(units), ok, false)
	}
	_, ok := impl.BlockBill(5, []int64{3, 0}, []int64{1, 2, 3})
	wantBool(t, "BlockBill with a block of 0", ok, false)
	wantText(t, "BlockBill of the most", toldWhole(impl.BlockBill(1000000, []int64{1}, []int64{0, 1000000})), "999999000000")
	wantText(t, "BlockBill with the greatest block", toldWhole(impl.BlockBill(1000000, []int64{1000000}, []int64{3, 1000000})), "3000000")
}

// TestP7BillsAreShared checks that all of a bill is shared, and what is left over by the first units.
func TestP7BillsAreShared(t *testing.T) {
	r := somewhere(124)
	for range 1000 {
		units := r.wholes(int(r.whole(1, 8)), 0, r.whole(1, 12))
		sum := int64(0)
		for _, n := range units {
			sum += n
		}
		bill := r.whole(0, 400)
		shares, ok := impl.ShareBill(bill, units)
		wantBool(t, "ShareBill", ok, sum > 0)
		if !ok {
			continue
		}
		var want []int64
		left := bill - bill/sum*sum
		for _, n := range units {
			share := bill / sum * n
			for ; n > 0 && left > 0; n-- {
				share++
				left--
			}
			want = append(want, share)
		}
		wantText(t, "ShareBill of "+whole(bill)+" by "+wholes(units), wholes(shares), wholes(want))
		for _, share := range shares {
			bill -= share
		}
		wantBool(t, "what is left of a bill", bill == 0, true)
	}
	wantText(t, "ShareBill of the most", toldWholes(impl.ShareBill(1000000000000, slices.Repeat([]int64{1000000}, 8))), "125000000000,125000000000,125000000000,125000000000,125000000000,125000000000,125000000000,125000000000")
	wantText(t, "ShareBill by one", toldWholes(impl.ShareBill(1000000000000, []int64{3})), "1000000000000")
	wantText(t, "ShareBill of nothing", toldWholes(impl.ShareBill(0, []int64{3, 0})), "0,0")
	for _, bill := range []int64{-1, 1000000000001, math.MinInt64, math.MaxInt64} {
		_, ok := impl.ShareBill(bill, []int64{3})
		wantBool(t, "ShareBill of "+whole(bill), ok, false)
	}
	for count := range 12 {
		_, ok := impl.ShareBill(10, slices.Repeat([]int64{1}, count))
		wantBool(t, "ShareBill by some", ok, count >= 1 && count <= 8)
		_, ok = impl.ShareBill(10, make([]int64, count))
		wantBool(t, "ShareBill by nothing", ok, false)
	}
}
