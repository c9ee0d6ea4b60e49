package tests

import (
	"math"
	"slices"
	"strings"
	"testing"

	"loop.example/g01309/impl"
)

// outcomesOfSensors calls all functions of chapter 7 with reads that may fail.
func outcomesOfSensors(list, other []float32, x, y, z float32, n int64) []outcome {
	return []outcome{
		{"ReadTable", all(impl.ReadTable(list, other, x))},
		{"BackTable", all(impl.BackTable(list, other, y))},
		{"SlowReads", all(impl.SlowReads(list, x, y, z))},
		{"QuickReads", all(impl.QuickReads(list, x, y, z))},
		{"MedianReads", all(impl.MedianReads(list))},
		{"SpikesIn", all(impl.SpikesIn(list, x))},
		{"FitCooling", all(impl.FitCooling(list, x, y))},
		{"FitLine", all(impl.FitLine(list, other))},
		{"LineMiss", all(impl.LineMiss(list, other, x, y))},
		{"RunGuess", all(impl.RunGuess(guess(x, 2), list, y, z))},
		{"RunGuess of another one", all(impl.RunGuess(guess(1, z), list, x, y))},
		{"DegreeDays", all(impl.DegreeDays(list, x))},
		{"FrostIn", all(impl.FrostIn(list))},
		{"SwingIn", all(impl.SwingIn(list, n))},
		{"TrackOf", all(impl.TrackOf("abc", list))},
	}
}

// outcomesOfCooling calls all functions of chapter 7 with single numbers that may fail.
func outcomesOfCooling(x, y, z float32, n, k int64) []outcome {
	return []outcome{
		{"CoolTo", all(impl.CoolTo(x, y, z, x))},
		{"CoolTo of others", all(impl.CoolTo(30, x, y, z))},
		{"TimeTo", all(impl.TimeTo(x, y, z, x))},
		{"TimeTo of others", all(impl.TimeTo(30, x, y, z))},
		{"DriftGuess", all(impl.DriftGuess(guess(x, y), z, x))},
		{"DriftGuess of another one", all(impl.DriftGuess(guess(1, z), x, y))},
		{"MeetGuess", all(impl.MeetGuess(guess(x, y), z, x))},
		{"MeetGuess of another one", all(impl.MeetGuess(guess(1, z), x, y))},
		{"SwingList", all(impl.SwingList(complex(x, y), n, k))},
		{"LagOfSwings", all(impl.LagOfSwings(complex(x, y), complex(y, z)))},
	}
}

// outcomesOfTracks calls all functions of chapter 7 with tracks that may fail.
func outcomesOfTracks(list []impl.Track, whole []int64, s string) []outcome {
	var x impl.Track
	if len(list) > 0 {
		x = list[0]
	}
	stored, _ := impl.StoreTracks(list)
	return []outcome{
		{"TrackOf", all(impl.TrackOf(x.Name, []float32{1, 2}))},
		{"ReadsOf", all(impl.ReadsOf(x))},
		{"PackTrack", all(impl.PackTrack(whole))},
		{"UnpackTrack", all(impl.UnpackTrack(s))},
		{"StoreTrack", all(impl.StoreTrack(x))},
		{"LoadTrack", all(impl.LoadTrack(s))},
		{"LoadTrack of what is stored", all(impl.LoadTrack(stored))},
		{"StoreTracks", all(impl.StoreTracks(list))},
		{"RecoverTracks", all(impl.RecoverTracks(s))},
		{"RecoverTracks of what is stored", all(impl.RecoverTracks(stored + s))},
	}
}

// checkSensors calls all functions of reads twice, and checks what they return and that they leave the lists alone.
func checkSensors(t *testing.T, list, other []float32, x, y, z float32, n int64) {
	t.Helper()
	one, sameOne := withRoom(list, sameBits)
	two, sameTwo := withRoom(other, sameBits)
	checkTwice(t, func() []outcome { return outcomesOfSensors(one, two, x, y, z, n) })
	wantBool(t, "IsTable", impl.IsTable(one, two), impl.IsTable(list, other))
	wantBool(t, "the lists are unchanged", sameOne() && sameTwo(), true)
}

func sameTrack(a, b impl.Track) bool { return tell(a) == tell(b) }

// tracksWithRoom returns a copy of tracks with unused capacity, and a function that
// reports whether the copy and its unused capacity are still as they were.
func tracksWithRoom(list []impl.Track) ([]impl.Track, func() bool) {
	var lists []func() bool
	own := slices.Clone(list)
	for i, x := range own {
		hundreds, same := withRoom(x.Hundreds, equal[int64])
		own[i].Hundreds = hundreds
		lists = append(lists, same)
	}
	tracks, same := withRoom(own, sameTrack)
	return tracks, func() bool {
		return same() && !slices.ContainsFunc(lists, func(same func() bool) bool { return !same() })
	}
}

// checkTracks does the same with the functions of tracks.
func checkTracks(t *testing.T, list []impl.Track, whole []int64, s string) {
	t.Helper()
	tracks, sameTracks := tracksWithRoom(list)
	wholes, sameWholes := withRoom(whole, equal[int64])
	checkTwice(t, func() []outcome { return outcomesOfTracks(tracks, wholes, s) })
	checkSame(t, "SameTracks", impl.SameTracks, tracks, list, true)
	for i, x := range tracks {
		wantBool(t, "ValidTrack", impl.ValidTrack(x), impl.ValidTrack(list[i]))
	}
	wantBool(t, "the lists are unchanged", sameTracks() && sameWholes(), true)
}

func TestP1SensorsOfAllNumbers(t *testing.T) {
	for i, x := range strangeNumbers() {
		for k, y := range strangeNumbers() {
			for _, z := range []float32{x, 0.25, num(greatest)} {
				checkSensors(t, []float32{x, y}, []float32{1, 2}, x, y, z, int64(i))
				checkSensors(t, []float32{1, 2, 3}, []float32{x, y, z}, y, z, x, int64(k))
				checkSensors(t, []float32{x}, []float32{y}, z, 1, y, 1)
				checkSensors(t, []float32{4, y, z, x, -2}, []float32{x, 1, 2, y, 3}, 0.5, 1, 2, 2)
				n, m := int64(i), int64(k)
				checkTwice(t, func() []outcome { return outcomesOfCooling(x, y, z, n, m) })
				checkTwice(t, func() []outcome { return outcomesOfCooling(z, x, y, m, n) })
			}
		}
	}
}

func TestP1SensorsOfAllLengths(t *testing.T) {
	r := somewhere(241)
	lengths := []int{0, 1, 2, 3, 15, 16, 17, 127, 128, 129, 256, 257, 5000}
	for _, count := range lengths {
		for _, size := range lengths {
			checkSensors(t, counted(count), counted(size), 0.5, 1, 2, 1)
			checkSensors(t, r.list(count, -9, 9), r.list(size, -9, 9), 0.5, 1, 2, 3)
			name := strings.Repeat("a", size)
			list := slices.Repeat([]impl.Track{{Name: name, Hundreds: slices.Repeat([]int64{5}, count)}}, min(size, 20))
			checkTracks(t, list, make([]int64, count), strings.Repeat("\x00", size))
		}
	}
}

func TestP1SensorsWithAllIntegers(t *testing.T) {
	list := []int64{math.MinInt64, math.MinInt64 + 1, -1 << 32, -27316, -27315, -1, 0, 1, 2, 63, 64, 65, 127, 128, 129, 199999, 200000, 200001, 1 << 31, 1 << 32, 1 << 57, 1 << 62, math.MaxInt64}
	for _, n := range list {
		checkSensors(t, []float32{1, 2, 3}, []float32{1, 2, 3}, 0.5, 1, 2, n)
		checkSensors(t, []float32{1}, nil, 0.5, 1, 2, n)
		for _, k := range list {
			checkTwice(t, func() []outcome { return outcomesOfCooling(1, 2, 3, n, k) })
			checkTracks(t, []impl.Track{track("abc", n, k)}, []int64{n, k, n}, "")
			checkTracks(t, []impl.Track{track("abc", 1), track("abc", n, k)}, []int64{1, k}, "")
		}
	}
}

func TestP1TracksOfAllTexts(t *testing.T) {
	stored, _ := impl.StoreTrack(track("abc", 5, -7, 2150))
	for _, s := range []string{
		"", "T", "TRK", "TRK1", "TRK1\x08", "TRK1\xff", "TRK1\x00\xff\xff", "TRK1\x01a\xff\xff", "none", "é", "\xff\xfe", "\x00", "\x80",
		stored, stored + stored, strings.Repeat(stored, 8), strings.Repeat(stored, 9), strings.Repeat(stored, 5000), stored[:len(stored)-1], stored[1:],
		strings.Repeat("\xff", 300), strings.Repeat("\x80", 100000), strings.Repeat("\x00", 100000), strings.Repeat("TRK1", 50000),
	} {
		for _, name := range badNames() {
			checkTracks(t, []impl.Track{track(name, 1)}, []int64{1}, s)
		}
		checkTracks(t, []impl.Track{track("abc", 1), track("d", 2, 3)}, []int64{1, 2}, s)
	}
	r := somewhere(242)
	for range 20000 {
		s := []byte(stored)
		for range r.whole(1, 3) {
			s[r.whole(0, int64(len(s))-1)] = byte(r.whole(0, 255))
		}
		checkTwice(t, func() []outcome { return outcomesOfTracks(nil, nil, string(s)) })
	}
}

// TestP1SensorsThatAreTakenDoNotFail checks that the arguments of the next tests are good ones.
func TestP1SensorsThatAreTakenDoNotFail(t *testing.T) {
	for _, o := range outcomesOfSensors([]float32{1, 2, 3}, []float32{3, 5, 7}, 0.5, 5, 2, 1) {
		// No table can be read at a number that is less than all reads, as the air must be.
		wantBool(t, o.name, o.ok(), o.name != "ReadTable")
	}
	stored, _ := impl.StoreTrack(track("a", 3))
	for _, o := range outcomesOfTracks([]impl.Track{track("abc", 5, 6)}, []int64{1, 2}, stored) {
		wantBool(t, o.name, o.ok(), true)
	}
}

func TestP1EmptyListsOfSensorsAreNil(t *testing.T) {
	none := []float32{}
	for i, o := range outcomesOfSensors(none, none, 0.5, 1, 2, 1) {
		wantText(t, o.name, tell(o.values...), tell(outcomesOfSensors(nil, nil, 0.5, 1, 2, 1)[i].values...))
	}
	for i, o := range outcomesOfTracks([]impl.Track{}, []int64{}, "") {
		wantText(t, o.name, tell(o.values...), tell(outcomesOfTracks(nil, nil, "")[i].values...))
	}
	wantBool(t, "IsTable", impl.IsTable(none, nil) || impl.IsTable(nil, none), false)
	wantBool(t, "ValidTrack", impl.ValidTrack(impl.Track{}) || impl.ValidTrack(impl.Track{Name: "a", Hundreds: []int64{}}), false)
	wantText(t, "StoreTracks of none", toldBytes(impl.StoreTracks([]impl.Track{})), "-")
	checkSame(t, "SameTracks", impl.SameTracks, []impl.Track{}, nil, true)
}

func TestP1ResultsOfSensorsAreNew(t *testing.T) {
	for _, count := range []int{1, 2, 3, 16, 128} {
		reads := counted(count)
		for i := range reads {
			reads[i] += 1
		}
		list, sameList := withRoom(reads, sameBits)
		other, sameOther := withRoom(counted(count), sameBits)
		calls := func() []outcome { return outcomesOfSensors(list, other, 0.5, 1, 2, 1) }
		for i, o := range calls() {
			want := tell(o.values...)
			wantNewLists(t, o.name, func() []any { return calls()[i].values })
			overwrite(o.values)
			wantBool(t, o.name+" returns new memory", sameList() && sameOther(), true)
			wantText(t, o.name+" called again", tell(calls()[i].values...), want)
		}
	}
	stored, _ := impl.StoreTracks([]impl.Track{track("a", 1, 2), track("b", 3), track("c", 4, 5, 6)})
	tracks, sameTracks := tracksWithRoom([]impl.Track{track("abc", 5, 6, 7), track("d", 8)})
	wholes, sameWholes := withRoom([]int64{1, 2}, equal[int64])
	for _, s := range []string{stored, "\x06\x01\x00"} {
		calls := func() []outcome { return outcomesOfTracks(tracks, wholes, s) }
		for i, o := range calls() {
			want := tell(o.values...)
			wantNewLists(t, o.name, func() []any { return calls()[i].values })
			overwrite(o.values)
			wantBool(t, o.name+" returns new memory", sameTracks() && sameWholes(), true)
			wantText(t, o.name+" called again", tell(calls()[i].values...), want)
		}
	}
	list, _, _ := impl.RecoverTracks(stored)
	for place := range list {
		again, _, _ := impl.RecoverTracks(stored)
		again[place].Hundreds = append(again[place].Hundreds, -77)
		overwrite([]any{again[place]})
		again[place] = list[place]
		wantText(t, "RecoverTracks returns lists of their own", tell(again), tell(list))
	}
}
