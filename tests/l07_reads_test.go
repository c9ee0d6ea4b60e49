package tests

import (
	"math"
	"slices"
	"testing"

	"loop.example/g01309/impl"
)

// TestChapter7Examples asserts the examples at the end of chapter 7.
func TestChapter7Examples(t *testing.T) {
	wantText(t, "a value of a table", toldNumber(impl.ReadTable([]float32{0, 2}, []float32{10, 20}, 1)), toldNumber(15, true))
	medians, ok := impl.MedianReads([]float32{1, 9, 2})
	wantText(t, "a median", toldList(medians[1:2], ok), told([]float32{2}, true))
	wantText(t, "integers that are packed", toldBytes(impl.PackTrack([]int64{3, 2, 2})), "060100")
}

func TestChapter7Limits(t *testing.T) {
	if impl.MaxTable != 16 || impl.MaxReads != 128 || impl.MaxTracks != 8 {
		t.Error("a constant is not as the chapter has it")
	}
}

func TestP8SensorsByTheirBits(t *testing.T) {
	for _, c := range sensorCases {
		wantText(t, c.name+" of "+c.arguments, sensorOutcome(c.name, c.arguments), c.want)
	}
}

// rising returns numbers each of which is greater than the one before.
func (s *somewhere) rising(count int) []float32 {
	var list []float32
	last := s.number(-20, 20)
	for range count {
		list = append(list, last)
		last += s.number(0.1, 5)
	}
	return list
}

// counted returns the numbers from 0 on.
func counted(count int) []float32 {
	list := make([]float32, count)
	for i := range list {
		list[i] = float32(i)
	}
	return list
}

// noNumbers are numbers that are not finite.
func noNumbers() []float32 {
	return []float32{num(plusInf), num(minusInf), num(nanBits), num(0xffc00001)}
}

// below are numbers less than 0, and such that are not finite.
func below() []float32 { return append(noNumbers(), num(0x80000001), -1, num(0xff7fffff)) }

// notAbove are numbers that are not greater than 0, and such that are not finite.
func notAbove() []float32 { return append(below(), 0, num(minusZero)) }

func nextUp(x float32) float32   { return math.Nextafter32(x, float32(math.Inf(1))) }
func nextDown(x float32) float32 { return math.Nextafter32(x, float32(math.Inf(-1))) }

func TestP8Tables(t *testing.T) {
	for count := range 20 {
		for other := range 20 {
			is := impl.IsTable(counted(count), counted(other))
			wantBool(t, "IsTable of some numbers", is, count == other && count >= 2 && count <= 16)
			if count > 0 {
				_, ok := impl.ReadTable(counted(count), counted(other), 0)
				wantBool(t, "ReadTable of some numbers", ok, is)
				_, ok = impl.BackTable(counted(other), counted(count), 0)
				wantBool(t, "BackTable of some numbers", ok, is)
			}
		}
	}
	for place := range 5 {
		for _, x := range append(noNumbers(), counted(5)[max(place-1, 0)]-1) {
			list := counted(5)
			if list[place] = x; place == 0 && x-x == 0 {
				continue
			}
			_, reads := impl.ReadTable(list, counted(5), 2)
			_, backs := impl.BackTable(counted(5), list, 2)
			wantBool(t, "IsTable of "+tell(list), impl.IsTable(list, counted(5)) || impl.IsTable(counted(5), list), false)
			wantBool(t, "a table of "+tell(list), reads || backs, false)
		}
	}
	for _, pair := range [][]float32{{1, 1}, {0, num(minusZero)}, {num(minusZero), 0}, {1, nextDown(1)}} {
		wantBool(t, "IsTable of "+tell(pair), impl.IsTable(pair, counted(2)) || impl.IsTable(counted(2), pair), false)
	}
	for _, pair := range [][]float32{{1, nextUp(1)}, {num(minusZero), num(leastBits)}, {num(0x80000001), 0}, {num(0xff7fffff), num(greatest)}} {
		wantBool(t, "IsTable of "+tell(pair), impl.IsTable(pair, counted(2)) && impl.IsTable(counted(2), pair), true)
	}
}

// TestP8TablesLeadToValuesAndBack checks tables between and at their numbers.
func TestP8TablesLeadToValuesAndBack(t *testing.T) {
	r := somewhere(201)
	for range 100 {
		for count := 2; count <= 16; count++ {
			x, y := r.rising(count), r.rising(count)
			for i := range count - 1 {
				share := r.number(0.01, 0.99)
				at := x[i] + share*(x[i+1]-x[i])
				want := float64(y[i]) + (float64(at)-float64(x[i]))/(float64(x[i+1])-float64(x[i]))*(float64(y[i+1])-float64(y[i]))
				value, ok := impl.ReadTable(x, y, at)
				wantBool(t, "ReadTable", ok, true)
				wantNear(t, "ReadTable", value, want, 1e-4)
				back, ok := impl.BackTable(x, y, value)
				wantBool(t, "BackTable", ok, true)
				wantNear(t, "BackTable", back, float64(at), 0.005)
				wantText(t, "BackTable", toldNumber(impl.BackTable(y, x, at)), toldNumber(value, ok))
			}
		}
	}
}

func TestP8TablesAtTheirNumbers(t *testing.T) {
	for count := 2; count <= 16; count++ {
		x, y := counted(count), make([]float32, count)
		for i := range y {
			y[i] = float32(i*i + 3)
		}
		for i := range count {
			wantText(t, "ReadTable at a number", toldNumber(impl.ReadTable(x, y, x[i])), toldNumber(y[i], true))
			wantText(t, "BackTable at a number", toldNumber(impl.BackTable(x, y, y[i])), toldNumber(x[i], true))
		}
		first, last := nextDown(x[0]), nextUp(x[count-1])
		for _, at := range append(noNumbers(), first, last, -7, 99, num(greatest), num(0xff7fffff)) {
			_, ok := impl.ReadTable(x, y, at)
			wantBool(t, "ReadTable beyond its ends", ok, false)
			_, ok = impl.BackTable(y, x, at)
			wantBool(t, "BackTable beyond its ends", ok, false)
		}
	}
	// At a number between two others the former two decide, which is told by what gets lost there.
	lossy := []float32{-1, 1e-9, 5}
	wantText(t, "ReadTable between", toldNumber(impl.ReadTable(counted(3), lossy, 1)), toldNumber(0, true))
	wantText(t, "BackTable between", toldNumber(impl.BackTable(lossy, counted(3), 1)), toldNumber(0, true))
	wantText(t, "ReadTable at -0", toldNumber(impl.ReadTable([]float32{0, 1}, []float32{5, 6}, num(minusZero))), toldNumber(5, true))
	_, ok := impl.ReadTable([]float32{0, 1}, []float32{num(0xff7fffff), num(greatest)}, 0.5)
	wantBool(t, "ReadTable of what is too great", ok, false)
}

// TestP8SlowSensorsFollow checks that a slow sensor comes nearer by the same share in each tick.
func TestP8SlowSensorsFollow(t *testing.T) {
	r := somewhere(202)
	for range 200 {
		warm, first, tick, time := r.number(-30, 30), r.number(-30, 30), r.number(0.1, 2), r.number(0.3, 5)
		list, ok := impl.SlowReads(slices.Repeat([]float32{warm}, 20), first, tick, time)
		wantBool(t, "SlowReads", ok && len(list) == 20, true)
		for k, s := range list {
			left := math.Exp(-float64(k+1) * float64(tick) / float64(time))
			wantNear(t, "SlowReads", s, float64(warm)+(float64(first)-float64(warm))*left, 1e-4)
		}
	}
}

func TestP8QuickReadsLeadBack(t *testing.T) {
	r := somewhere(203)
	for count := 1; count <= 128; count++ {
		list, first, tick, time := r.list(count, -30, 30), r.number(-30, 30), r.number(0.3, 2), r.number(0.3, 3)
		slow, ok := impl.SlowReads(list, first, tick, time)
		wantBool(t, "SlowReads", ok && len(slow) == count, true)
		quick, ok := impl.QuickReads(slow, first, tick, time)
		wantBool(t, "QuickReads", ok && len(quick) == count, true)
		for k, read := range quick {
			wantNear(t, "QuickReads", read, float64(list[k]), 0.001)
		}
	}
}

// TestP8SensorsThatDoNotChange checks that sensors stay where they are, to the last bit.
func TestP8SensorsThatDoNotChange(t *testing.T) {
	for _, warm := range []float32{7, -0.1, 0, num(leastBits), num(greatest)} {
		for count := 1; count <= 128; count += 9 {
			list := slices.Repeat([]float32{warm}, count)
			wantText(t, "SlowReads", toldList(impl.SlowReads(list, warm, 0.3, 2)), told(list, true))
			wantText(t, "QuickReads", toldList(impl.QuickReads(list, warm, 0.3, 2)), told(list, true))
			wantText(t, "MedianReads", toldList(impl.MedianReads(list)), told(list, true))
			wantText(t, "SpikesIn", toldWholes(impl.SpikesIn(list, 0)), "-")
			wantText(t, "FrostIn", toldWholePair(impl.FrostIn(list)), map[bool]string{true: "1 " + whole(int64(count)), false: "0 0"}[warm < 0])
			wantText(t, "DegreeDays", toldNumber(impl.DegreeDays(list, warm)), toldNumber(0, true))
		}
	}
}

func TestP8SensorsOfOneRead(t *testing.T) {
	share := 1 - impl.ExpNumber(-0.5)
	wantText(t, "SlowReads", toldList(impl.SlowReads([]float32{5}, 1, 2, 4)), told([]float32{1 + share*4}, true))
	wantText(t, "QuickReads", toldList(impl.QuickReads([]float32{5}, 1, 2, 4)), told([]float32{1 + 4/share}, true))
	for _, read := range []float32{5, -3, 0, num(minusZero), num(greatest)} {
		one := []float32{read}
		wantText(t, "MedianReads", toldList(impl.MedianReads(one)), told(one, true))
		wantText(t, "SpikesIn", toldWholes(impl.SpikesIn(one, 0)), "-")
	}
	_, _, cools := impl.FitCooling([]float32{30}, 20, 1)
	_, _, fits := impl.FitLine([]float32{1}, []float32{2})
	wantBool(t, "a fit of one read", cools || fits, false)
	wantText(t, "LineMiss", toldNumber(impl.LineMiss([]float32{3}, []float32{5}, 2, 1)), toldNumber(2, true))
	wantText(t, "DegreeDays", toldNumber(impl.DegreeDays([]float32{5}, 7)), toldNumber(2, true))
	wantText(t, "FrostIn", toldWholePair(impl.FrostIn([]float32{-5})), "1 1")
	wantText(t, "FrostIn", toldWholePair(impl.FrostIn([]float32{5})), "0 0")
}

func TestP8SlowSensorsAreChecked(t *testing.T) {
	list := []float32{1, 2, 3}
	for _, bad := range notAbove() {
		_, tick := impl.SlowReads(list, 0, bad, 1)
		_, time := impl.SlowReads(list, 0, 1, bad)
		_, quickTick := impl.QuickReads(list, 0, bad, 1)
		_, quickTime := impl.QuickReads(list, 0, 1, bad)
		wantBool(t, "the tick or the time "+tell(bad), tick || time || quickTick || quickTime, false)
	}
	for _, bad := range noNumbers() {
		_, slow := impl.SlowReads(list, bad, 1, 1)
		_, quick := impl.QuickReads(list, bad, 1, 1)
		wantBool(t, "the first "+tell(bad), slow || quick, false)
	}
	// So little time that nothing changes: a slow sensor tells nothing that could lead back.
	for _, tick := range []float32{1e-9, 1e-30, num(leastBits)} {
		wantText(t, "SlowReads with a short tick", toldList(impl.SlowReads(list, 7, tick, 1)), told([]float32{7, 7, 7}, true))
		_, ok := impl.QuickReads(list, 7, tick, 1)
		wantBool(t, "QuickReads with a short tick", ok, false)
	}
	for _, tick := range []float32{300, 1e30, num(greatest)} {
		wantText(t, "SlowReads with a long tick", toldList(impl.SlowReads(list, 7, tick, 0.5)), told(list, true))
		wantText(t, "QuickReads with a long tick", toldList(impl.QuickReads(list, 7, tick, 0.5)), told(list, true))
	}
	_, slow := impl.SlowReads([]float32{num(greatest)}, num(0xff7fffff), 1, 1)
	_, quick := impl.QuickReads([]float32{num(greatest)}, 0, 0.01, 1)
	wantBool(t, "what is too great", slow || quick, false)
}

// TestP8Reads checks the lengths and the numbers of reads in all functions that take them.
func TestP8Reads(t *testing.T) {
	check := func(what string, list []float32, want bool) {
		t.Helper()
		g := guess(1, 1)
		outcomes := []outcome{
			{"SlowReads", all(impl.SlowReads(list, 0, 1, 1))}, {"QuickReads", all(impl.QuickReads(list, 0, 1, 1))},
			{"MedianReads", all(impl.MedianReads(list))}, {"SpikesIn", all(impl.SpikesIn(list, 1))},
			{"LineMiss", all(impl.LineMiss(list, list, 1, 1))}, {"RunGuess", all(impl.RunGuess(g, list, 0, 1))},
			{"DegreeDays", all(impl.DegreeDays(list, 1))}, {"FrostIn", all(impl.FrostIn(list))},
			{"SwingIn", all(impl.SwingIn(list, 1))}, {"TrackOf", all(impl.TrackOf("a", list))},
		}
		if len(list) != 1 {
			outcomes = append(outcomes, outcome{"FitCooling", all(impl.FitCooling(list, 0, 1))},
				outcome{"FitLine, x", all(impl.FitLine(list, counted(len(list))))},
				outcome{"FitLine, y", all(impl.FitLine(counted(len(list)), list))})
		}
		for _, o := range outcomes {
			wantBool(t, o.name+" of "+what, o.ok(), want)
		}
	}
	for count := range 140 {
		list := counted(count)
		for i := range list {
			list[i] += 1
		}
		check(whole(int64(count))+" reads", list, count >= 1 && count <= 128)
	}
	for _, bad := range noNumbers() {
		for place := range 3 {
			list := []float32{1, 2, 3}
			list[place] = bad
			check("reads with "+tell(bad), list, false)
		}
		check("the read "+tell(bad), []float32{bad}, false)
	}
}

func TestP8Medians(t *testing.T) {
	r := somewhere(204)
	for count := 1; count <= 128; count++ {
		list := r.list(count, -3, 3)
		for i := range list {
			if r.whole(0, 1) == 1 {
				list[i] = float32(math.Trunc(float64(list[i])))
			}
		}
		medians, ok := impl.MedianReads(list)
		wantBool(t, "MedianReads", ok && len(medians) == count, true)
		wantText(t, "the first and the last one", told([]float32{medians[0], medians[count-1]}, true), told([]float32{list[0], list[count-1]}, true))
		for i := 1; i < count-1; i++ {
			three := slices.Sorted(slices.Values(list[i-1 : i+2]))
			wantBool(t, "a median", medians[i] == three[1], true)
		}
	}
	// Of equal numbers the one in the middle is taken, which only zeros can tell.
	zero, minus := float32(0), num(minusZero)
	for _, c := range []struct {
		a, b, c float32
		want    float32
	}{
		{zero, minus, zero, minus}, {minus, zero, minus, zero}, {minus, zero, 1, zero}, {zero, minus, -1, minus},
		{minus, 1, zero, minus}, {zero, 1, minus, zero}, {minus, -1, zero, minus}, {zero, -1, minus, zero},
	} {
		medians, ok := impl.MedianReads([]float32{c.a, c.b, c.c})
		wantText(t, "the median of zeros", toldList(medians, ok), told([]float32{c.a, c.want, c.c}, true))
	}
}

func TestP8Spikes(t *testing.T) {
	r := somewhere(205)
	for range 300 {
		list, limit := r.list(int(r.whole(1, 40)), -3, 3), r.number(0, 2)
		medians, _ := impl.MedianReads(list)
		var want []int64
		for i := range list {
			if math.Abs(float64(list[i]-medians[i])) > float64(limit) {
				want = append(want, int64(i))
			}
		}
		wantText(t, "SpikesIn", toldWholes(impl.SpikesIn(list, limit)), wholes(want))
	}
	list := []float32{1, 9, 1, -7, 1, 5}
	for _, c := range []struct {
		limit float32
		want  string
	}{{8, "-"}, {nextDown(8), "1,3"}, {nextUp(8), "-"}, {0, "1,3"}, {num(minusZero), "1,3"}, {num(greatest), "-"}} {
		wantText(t, "SpikesIn with the limit "+tell(c.limit), toldWholes(impl.SpikesIn(list, c.limit)), c.want)
	}
	for _, bad := range below() {
		_, ok := impl.SpikesIn(list, bad)
		wantBool(t, "SpikesIn with the limit "+tell(bad), ok, false)
		_, ok = impl.SpikesIn(list[:1], bad)
		wantBool(t, "SpikesIn of one read with the limit "+tell(bad), ok, false)
	}
	wantText(t, "SpikesIn that are too great", toldWholes(impl.SpikesIn([]float32{num(0xff7fffff), num(greatest), num(0xff7fffff)}, num(greatest))), "1")
}

func TestP8BodiesCool(t *testing.T) {
	r := somewhere(206)
	for range 500 {
		warm, air, rate, time := r.number(-40, 60), r.number(-40, 60), r.number(0.01, 3), r.number(0, 10)
		cool, ok := impl.CoolTo(warm, air, rate, time)
		wantBool(t, "CoolTo", ok, true)
		wantNear(t, "CoolTo", cool, float64(air)+(float64(warm)-float64(air))*math.Exp(-float64(rate)*float64(time)), 1e-4)
		for _, zero := range []float32{0, num(minusZero)} {
			wantText(t, "CoolTo in no time", toldNumber(impl.CoolTo(warm, air, rate, zero)), toldNumber(air+(warm-air), true))
		}
		wantText(t, "CoolTo at last", toldNumber(impl.CoolTo(warm, air, rate, 1e30)), toldNumber(air, true))
		short := time / rate / 4
		goal, _ := impl.CoolTo(warm, air, rate, short)
		if d := goal - air; d < -0.1 || d > 0.1 {
			back, ok := impl.TimeTo(warm, air, rate, goal)
			wantBool(t, "TimeTo", ok, true)
			wantNear(t, "TimeTo", back, float64(short), 0.01*float64(short)+0.001/float64(rate))
		}
	}
}

func TestP8CoolingIsChecked(t *testing.T) {
	for _, bad := range noNumbers() {
		_, warm := impl.CoolTo(bad, 20, 1, 1)
		_, air := impl.CoolTo(30, bad, 1, 1)
		_, from := impl.TimeTo(bad, 20, 1, 25)
		_, in := impl.TimeTo(30, bad, 1, 25)
		_, goal := impl.TimeTo(30, 20, 1, bad)
		wantBool(t, "cooling with "+tell(bad), warm || air || from || in || goal, false)
	}
	for _, bad := range notAbove() {
		_, cools := impl.CoolTo(30, 20, bad, 1)
		_, tells := impl.TimeTo(30, 20, bad, 25)
		wantBool(t, "the rate "+tell(bad), cools || tells, false)
	}
	for _, bad := range below() {
		_, ok := impl.CoolTo(30, 20, 1, bad)
		wantBool(t, "CoolTo in the time "+tell(bad), ok, false)
	}
	for _, c := range []struct {
		warm, air, goal float32
		want            bool
	}{
		{30, 20, 25, true}, {10, 20, 15, true}, {30, 20, nextUp(20), true}, {30, 20, nextDown(30), true}, {30, 20, 30, true}, {10, 20, 10, true},
		{30, 20, nextUp(30), false}, {30, 20, 40, false}, {30, 20, 20, false}, {30, 20, nextDown(20), false}, {30, 20, 10, false},
		{10, 20, 5, false}, {10, 20, 30, false}, {20, 20, 20, false}, {20, 20, 25, false}, {num(greatest), -3e38, 0, false}, {1, 0, num(leastBits), false},
	} {
		time, ok := impl.TimeTo(c.warm, c.air, 2, c.goal)
		wantBool(t, "TimeTo of "+tell(c.warm, c.air, c.goal), ok && time >= 0, c.want)
	}
	wantText(t, "TimeTo where it begins", toldNumber(impl.TimeTo(30, 20, 2, 30)), toldNumber(0, true))
	_, ok := impl.CoolTo(num(greatest), num(0xff7fffff), 1, 1)
	wantBool(t, "CoolTo of too much", ok, false)
	_, ok = impl.TimeTo(30, 20, num(leastBits), 25)
	wantBool(t, "TimeTo of too much time", ok, false)
}

// TestP8FitsOfCoolingLeadBack checks that what has cooled is fitted by its rate and its beginning.
func TestP8FitsOfCoolingLeadBack(t *testing.T) {
	r := somewhere(207)
	for range 50 {
		for _, count := range []int{2, 3, 5, 20} {
			air, tick, rate := r.number(-20, 30), r.number(0.2, 1), r.number(0.05, 0.2)
			begin := air + r.number(5, 60)
			var list []float32
			for k := range count {
				read, _ := impl.CoolTo(begin, air, rate, float32(k)*tick)
				list = append(list, read)
			}
			told, first, ok := impl.FitCooling(list, air, tick)
			wantBool(t, "FitCooling", ok, true)
			wantNear(t, "the rate", told, float64(rate), 0.001)
			wantNear(t, "the beginning", first, float64(begin), 0.02)
		}
	}
	rate, begin, ok := impl.FitCooling([]float32{21, 21, 21}, 20, 1)
	wantText(t, "what does not cool", toldPair(rate, begin, ok), toldPair(num(minusZero), 21, true))
}

func TestP8FitsOfCoolingAreChecked(t *testing.T) {
	good := []float32{30, 25, 22}
	for place := range good {
		for _, bad := range append(noNumbers(), 20, nextDown(20), -20) {
			list := slices.Clone(good)
			list[place] = bad
			_, _, ok := impl.FitCooling(list, 20, 1)
			wantBool(t, "FitCooling of "+tell(list), ok, false)
		}
	}
	for _, bad := range notAbove() {
		_, _, ok := impl.FitCooling(good, 20, bad)
		wantBool(t, "FitCooling with the tick "+tell(bad), ok, false)
	}
	for _, air := range append(noNumbers(), 22, 30) {
		_, _, ok := impl.FitCooling(good, air, 1)
		wantBool(t, "FitCooling in the air "+tell(air), ok, false)
	}
	_, _, ok := impl.FitCooling(good, 20, num(greatest))
	wantBool(t, "FitCooling with too great a tick", ok, false)
	_, _, ok = impl.FitCooling(good, 20, 1e-30)
	wantBool(t, "FitCooling with too short a tick", ok, false)
	_, _, ok = impl.FitCooling([]float32{2, 1}, num(0xff7fffff), 1)
	wantBool(t, "FitCooling of too much", ok, false)
	_, _, ok = impl.FitCooling([]float32{num(greatest), num(greatest)}, num(0xff7fffff), 1)
	wantBool(t, "FitCooling of more than there is", ok, false)
}

func TestP8LinesAreFitted(t *testing.T) {
	r := somewhere(208)
	for count := 2; count <= 128; count++ {
		slope, base := float32(r.whole(-9, 9)), float32(r.whole(-20, 20))
		x, y := counted(count), make([]float32, count)
		for i := range x {
			y[i] = slope*x[i] + base
		}
		told, from, ok := impl.FitLine(x, y)
		wantBool(t, "FitLine", ok, true)
		wantNear(t, "the slope", told, float64(slope), 1e-3)
		wantNear(t, "the base", from, float64(base), 0.05)
		wantText(t, "LineMiss", toldNumber(impl.LineMiss(x, y, slope, base)), toldNumber(0, true))
		place := int(r.whole(0, int64(count)-1))
		y[place] += []float32{5, -5}[count%2]
		wantText(t, "LineMiss", toldNumber(impl.LineMiss(x, y, slope, base)), toldNumber(5, true))
	}
	wantText(t, "FitLine", toldPair(impl.FitLine([]float32{0, 1, 2}, []float32{1, 3, 5})), toldPair(2, 1, true))
	wantText(t, "FitLine of what does not change", toldPair(impl.FitLine([]float32{0, 1, 2}, []float32{7, 7, 7})), toldPair(0, 7, true))
}

// TestP8LinesMissLeast checks that no other line has less squares of what it misses.
func TestP8LinesMissLeast(t *testing.T) {
	r := somewhere(209)
	for range 100 {
		count := int(r.whole(3, 30))
		x, y := r.list(count, -5, 5), r.list(count, -5, 5)
		slope, base, ok := impl.FitLine(x, y)
		wantBool(t, "FitLine", ok, true)
		squares := func(slope, base float64) float64 {
			sum := 0.0
			for i := range x {
				miss := slope*float64(x[i]) + base - float64(y[i])
				sum += miss * miss
			}
			return sum
		}
		least := squares(float64(slope), float64(base))
		for _, d := range [][2]float64{{0.01, 0}, {-0.01, 0}, {0, 0.01}, {0, -0.01}} {
			wantBool(t, "another line is worse", squares(float64(slope)+d[0], float64(base)+d[1]) > least, true)
		}
	}
}

func TestP8LinesAreChecked(t *testing.T) {
	for count := range 6 {
		for other := range 6 {
			_, _, fits := impl.FitLine(counted(count), counted(other))
			wantBool(t, "FitLine of some numbers", fits, count == other && count >= 2)
			_, misses := impl.LineMiss(counted(count), counted(other), 1, 1)
			wantBool(t, "LineMiss of some numbers", misses, count == other && count >= 1)
		}
	}
	for _, x := range []float32{0, 1, -3} {
		_, _, ok := impl.FitLine([]float32{x, x, x}, []float32{1, 2, 3})
		wantBool(t, "FitLine at one place", ok, false)
	}
	for _, bad := range noNumbers() {
		_, slope := impl.LineMiss([]float32{1}, []float32{1}, bad, 1)
		_, base := impl.LineMiss([]float32{1}, []float32{1}, 1, bad)
		_, x := impl.LineMiss([]float32{1, bad}, []float32{1, 2}, 1, 1)
		_, y := impl.LineMiss([]float32{1, 2}, []float32{bad, 1}, 1, 1)
		wantBool(t, "LineMiss with "+tell(bad), slope || base || x || y, false)
	}
	_, ok := impl.LineMiss([]float32{1, 1e30}, []float32{1, 1}, 1e30, 0)
	wantBool(t, "LineMiss of too much", ok, false)
	_, _, ok = impl.FitLine([]float32{1e19, 2e19}, []float32{1, 2})
	wantBool(t, "FitLine of too much", ok, false)
	_, _, ok = impl.FitLine([]float32{0, 1}, []float32{num(0xff7fffff), num(greatest)})
	wantBool(t, "FitLine that is too steep", ok, false)
	_, _, ok = impl.FitLine([]float32{1000, 1001}, []float32{-1e35, 1e35})
	wantBool(t, "FitLine with too low a base", ok, false)
}

func TestP8Guesses(t *testing.T) {
	r := somewhere(210)
	for range 500 {
		g := guess(r.number(-20, 20), r.number(0.1, 5))
		drift, noise, told, doubt := r.number(-3, 3), r.number(0, 2), r.number(-20, 20), r.number(0.1, 5)
		wantText(t, "DriftGuess", toldGuess(impl.DriftGuess(g, drift, noise)), toldGuess(guess(g.Mean+drift, g.Spread+noise), true))
		met, ok := impl.MeetGuess(g, told, doubt)
		wantBool(t, "MeetGuess", ok && met.Spread > 0 && met.Spread < g.Spread && met.Spread < doubt*1.0001, true)
		share := float64(g.Spread) / (float64(g.Spread) + float64(doubt))
		wantNear(t, "the Mean", met.Mean, float64(g.Mean)+share*(float64(told)-float64(g.Mean)), 1e-4)
		wantNear(t, "the Spread", met.Spread, float64(g.Spread)*(1-share), 1e-5)
		stays, _ := impl.MeetGuess(g, g.Mean, doubt)
		wantText(t, "a read that was guessed", digits(stays.Mean), digits(g.Mean))
	}
}

// guessedByHand does what RunGuess does, with the functions that it takes.
func guessedByHand(g impl.Guess, list []float32, noise, doubt float32) string {
	var means []float32
	for _, read := range list {
		g, _ = impl.DriftGuess(g, 0, noise)
		g, _ = impl.MeetGuess(g, read, doubt)
		means = append(means, g.Mean)
	}
	return toldMeans(g, means, true)
}

func TestP8GuessesRun(t *testing.T) {
	r := somewhere(211)
	for count := 1; count <= 128; count++ {
		g, noise, doubt := guess(r.number(-20, 20), r.number(0.1, 5)), r.number(0, 1), r.number(0.1, 5)
		list := r.list(count, -20, 20)
		got := toldMeans(impl.RunGuess(g, list, noise, doubt))
		wantText(t, "RunGuess", got, guessedByHand(g, list, noise, doubt))
		_, means, _ := impl.RunGuess(g, slices.Repeat([]float32{7}, 128), 0.5, doubt)
		wantNear(t, "guesses of what does not change", means[127], 7, 0.01)
	}
}

func TestP8GuessesAreChecked(t *testing.T) {
	g := guess(2, 1)
	for _, bad := range noNumbers() {
		_, mean := impl.DriftGuess(guess(bad, 1), 0, 0)
		_, drift := impl.DriftGuess(g, bad, 0)
		_, met := impl.MeetGuess(guess(bad, 1), 1, 1)
		_, told := impl.MeetGuess(g, bad, 1)
		_, _, run := impl.RunGuess(guess(bad, 1), []float32{1}, 0, 1)
		wantBool(t, "guesses with "+tell(bad), mean || drift || met || told || run, false)
	}
	for _, bad := range notAbove() {
		_, drifts := impl.DriftGuess(guess(1, bad), 0, 1)
		_, meets := impl.MeetGuess(guess(1, bad), 1, 1)
		_, _, runs := impl.RunGuess(guess(1, bad), []float32{1}, 1, 1)
		wantBool(t, "the Spread "+tell(bad), drifts || meets || runs, false)
		_, meets = impl.MeetGuess(g, 1, bad)
		_, _, one := impl.RunGuess(g, []float32{1}, 1, bad)
		_, _, runs = impl.RunGuess(g, []float32{1, 2, 3}, 1, bad)
		wantBool(t, "the doubt "+tell(bad), meets || one || runs, false)
	}
	for _, bad := range below() {
		_, drifts := impl.DriftGuess(g, 1, bad)
		_, _, one := impl.RunGuess(g, []float32{1}, bad, 1)
		_, _, runs := impl.RunGuess(g, []float32{1, 2, 3}, bad, 1)
		wantBool(t, "the noise "+tell(bad), drifts || one || runs, false)
	}
	for _, zero := range []float32{0, num(minusZero)} {
		wantText(t, "DriftGuess without noise", toldGuess(impl.DriftGuess(g, 3, zero)), toldGuess(guess(5, 1), true))
		wantText(t, "RunGuess without noise", toldMeans(impl.RunGuess(g, []float32{4}, zero, 1)), toldMeans(guess(3, 0.5), []float32{3}, true))
	}
	// What a guess becomes must be one: its Spread may get to 0, and its Mean too great.
	for _, doubt := range []float32{1e-9, num(leastBits)} {
		_, meets := impl.MeetGuess(g, 4, doubt)
		_, _, runs := impl.RunGuess(g, []float32{4}, 0, doubt)
		wantBool(t, "a guess without a Spread", meets || runs, false)
	}
	_, drifts := impl.DriftGuess(guess(num(greatest), 1), num(greatest), 0)
	_, spreads := impl.DriftGuess(guess(1, num(greatest)), 0, num(greatest))
	_, meets := impl.MeetGuess(guess(num(0xff7fffff), 1), num(greatest), 1)
	_, _, runs := impl.RunGuess(g, []float32{1, 2}, num(greatest), 1)
	wantBool(t, "a guess of too much", drifts || spreads || meets || runs, false)
	wantText(t, "RunGuess drifts by +0", toldMeans(impl.RunGuess(guess(num(minusZero), 1), []float32{num(minusZero)}, 0, 1)), toldMeans(guess(0, 0.5), []float32{0}, true))
}
