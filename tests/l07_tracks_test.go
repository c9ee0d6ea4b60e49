package tests

import (
	"math"
	"slices"
	"strings"
	"testing"

	"loop.example/g01309/impl"
)

// badNames are texts that are no names, some of which are nearly one.
func badNames() []string {
	return []string{"", "abcdefghi", "A", "aB", "a1", "a ", " a", "a-b", "`", "{", "a\x00", "é", "aé", "\xff", strings.Repeat("a", 256), strings.Repeat("a", 257)}
}

// badHundreds are integers that no track has.
func badHundreds() []int64 {
	return []int64{-27316, 200001, 1<<32 + 5, -1 << 32, 1 << 62, math.MinInt64, math.MaxInt64}
}

func TestP8ValidTracks(t *testing.T) {
	check := func(x impl.Track, want bool) {
		t.Helper()
		_, reads := impl.ReadsOf(x)
		_, stores := impl.StoreTrack(x)
		_, all := impl.StoreTracks([]impl.Track{track("a", 1), x})
		wantBool(t, "ValidTrack of "+tell(x), impl.ValidTrack(x), want)
		wantBool(t, "what takes "+tell(x), reads && stores && all, want)
		wantBool(t, "what fails for "+tell(x), reads || stores || all, want)
	}
	for count := range 9 {
		check(track(strings.Repeat("z", count), 5), count >= 1 && count <= 8)
	}
	for _, name := range badNames() {
		check(track(name, 5), false)
	}
	for count := range 140 {
		list := slices.Repeat([]int64{5}, count)
		check(track("a", list...), count >= 1 && count <= 128)
		_, ok := impl.PackTrack(list)
		wantBool(t, "PackTrack of some integers", ok, count >= 1 && count <= 128)
	}
	for place := range 3 {
		for _, edge := range []int64{-27315, 200000, 0} {
			list := []int64{1, 2, 3}
			list[place] = edge
			check(track("a", list...), true)
		}
		for _, bad := range badHundreds() {
			list := []int64{1, 2, 3}
			list[place] = bad
			check(track("a", list...), false)
			_, ok := impl.PackTrack(list)
			wantBool(t, "PackTrack of "+wholes(list), ok, false)
		}
	}
}

func TestP8SameTracks(t *testing.T) {
	list := func() []impl.Track { return []impl.Track{track("a", 1, 2), track("b", 3)} }
	checkSame(t, "SameTracks of equal ones", impl.SameTracks, list(), list(), true)
	for place := range list() {
		other := list()
		other[place].Name += "c"
		checkSame(t, "SameTracks with another name", impl.SameTracks, list(), other, false)
		for k := range other[place].Hundreds {
			other = list()
			other[place].Hundreds[k] += 1 << 32
			checkSame(t, "SameTracks with another integer", impl.SameTracks, list(), other, false)
		}
		other = list()
		other[place].Hundreds = append(other[place].Hundreds, 3)
		checkSame(t, "SameTracks with one integer more", impl.SameTracks, list(), other, false)
		other[place].Hundreds = nil
		checkSame(t, "SameTracks with no integers", impl.SameTracks, list(), other, false)
	}
	checkSame(t, "SameTracks in another order", impl.SameTracks, list(), []impl.Track{list()[1], list()[0]}, false)
	checkSame(t, "SameTracks of integers in another order", impl.SameTracks, list(), []impl.Track{track("a", 2, 1), track("b", 3)}, false)
	checkSame(t, "SameTracks of a beginning", impl.SameTracks, list(), list()[:1], false)
	checkSame(t, "SameTracks of names that are exchanged", impl.SameTracks, list(), []impl.Track{track("b", 1, 2), track("a", 3)}, false)
	checkSame(t, "SameTracks of nothing", impl.SameTracks, nil, []impl.Track{}, true)
	checkSame(t, "SameTracks without integers", impl.SameTracks, []impl.Track{track("a")}, []impl.Track{{Name: "a", Hundreds: []int64{}}}, true)
	odd := []impl.Track{track("", 1<<62), track("\xff", make([]int64, 500)...)}
	many := slices.Repeat(odd, 20)
	checkSame(t, "SameTracks of what is no track", impl.SameTracks, many, slices.Clone(many), true)
	checkSame(t, "SameTracks of what is no track", impl.SameTracks, odd, []impl.Track{odd[0], track("\xfe", odd[1].Hundreds...)}, false)
}

// TestP8ReadsOfTracksLeadBack checks all hundredths that there are.
func TestP8ReadsOfTracksLeadBack(t *testing.T) {
	for from := int64(-27315); from <= 200000; from += 128 {
		var list []int64
		for n := from; n < from+128 && n <= 200000; n++ {
			list = append(list, n)
		}
		x := track("abc", list...)
		reads, ok := impl.ReadsOf(x)
		wantBool(t, "ReadsOf", ok && len(reads) == len(list), true)
		for i, read := range reads {
			if read != float32(list[i])/100 {
				t.Errorf("ReadsOf %d: got %v", list[i], read)
			}
		}
		back, ok := impl.TrackOf("abc", reads)
		wantText(t, "TrackOf", toldTrack(back, ok), toldTrack(x, true))
	}
}

func TestP8TracksOfReads(t *testing.T) {
	for _, c := range []struct {
		read float32
		want string
	}{
		{1.5, "a:150"}, {-0.25, "a:-25"}, {0, "a:0"}, {num(minusZero), "a:0"}, {num(leastBits), "a:0"}, {num(0x80000001), "a:0"},
		{0.125, "a:13"}, {0.375, "a:38"}, {-0.125, "a:-12"}, {-0.375, "a:-37"}, {nextDown(0.125), "a:12"}, {nextDown(-0.125), "a:-13"}, {nextUp(-0.125), "a:-12"},
		{0.005, "a:0"}, {nextUp(0.005), "a:1"}, {-0.005, "a:0"}, {nextDown(-0.005), "a:-1"},
		{2000, "a:200000"}, {2000.004, "a:200000"}, {2000.006, "fail"}, {-273.15, "a:-27315"}, {-273.15488, "a:-27315"}, {-273.1551, "fail"},
		{3000, "fail"}, {-274, "fail"}, {9.2233725e16, "fail"}, {-9.2233725e16, "fail"}, {1.8446744e17, "fail"}, {1e30, "fail"}, {num(greatest), "fail"}, {num(0xff7fffff), "fail"},
		{num(plusInf), "fail"}, {num(minusInf), "fail"}, {num(nanBits), "fail"},
	} {
		wantText(t, "TrackOf "+tell(c.read), toldTrack(impl.TrackOf("a", []float32{c.read})), c.want)
		for place := range 3 {
			list := []float32{7, 7, 7}
			list[place] = c.read
			_, ok := impl.TrackOf("a", list)
			wantBool(t, "TrackOf three reads with "+tell(c.read), ok, c.want != "fail")
		}
	}
	for _, name := range badNames() {
		_, ok := impl.TrackOf(name, []float32{1})
		wantBool(t, "TrackOf with a name like "+name, ok, false)
	}
	wantText(t, "TrackOf with the longest name", toldTrack(impl.TrackOf("abcdefgh", []float32{1})), "abcdefgh:100")
}

// packedByHand writes the bytes of steps one by one.
func packedByHand(list []int64) string {
	var s []byte
	last := int64(0)
	for _, x := range list {
		n := 2 * (x - last)
		if x < last {
			n = -n - 1
		}
		last = x
		switch {
		case n < 128:
			s = append(s, byte(n))
		case n < 128*128:
			s = append(s, byte(128+n%128), byte(n/128))
		default:
			s = append(s, byte(128+n%128), byte(128+n/128%128), byte(n/128/128))
		}
	}
	return string(s)
}

func wantPacked(t *testing.T, list []int64) {
	t.Helper()
	s := packedByHand(list)
	wantText(t, "PackTrack of "+wholes(list), toldBytes(impl.PackTrack(list)), toldBytes(s, true))
	wantText(t, "UnpackTrack of "+toldBytes(s, true), toldWholes(impl.UnpackTrack(s)), wholes(list))
}

// TestP8IntegersArePacked checks all single integers, and steps of all lengths.
func TestP8IntegersArePacked(t *testing.T) {
	for n := int64(-27315); n <= 200000; n++ {
		s, ok := impl.PackTrack([]int64{n})
		list, back := impl.UnpackTrack(s)
		if !ok || !back || s != packedByHand([]int64{n}) || len(list) != 1 || list[0] != n {
			t.Errorf("%d is packed as %q and unpacked as %v", n, s, list)
		}
	}
	for _, step := range []int64{0, 1, 2, 63, 64, 65, 127, 128, 8191, 8192, 8193, 16383, 16384, 27315, 65535, 65536, 131071, 200000, 227315} {
		for _, from := range []int64{-27315, 0, 5, 200000 - step} {
			if from+step <= 200000 {
				wantPacked(t, []int64{from, from + step})
				wantPacked(t, []int64{from + step, from})
				wantPacked(t, []int64{from, from + step, from, from + step})
			}
		}
	}
	r := somewhere(231)
	for count := 1; count <= 128; count++ {
		wantPacked(t, r.wholes(count, -27315, 200000))
		wantPacked(t, r.wholes(count, 2000, 2100))
	}
}

// TestP8TracksThatDoNotChange checks that each step of none takes one byte of 0.
func TestP8TracksThatDoNotChange(t *testing.T) {
	for _, n := range []int64{0, 7, -1, 63, 64, 2150, -27315, 200000} {
		first, _ := impl.PackTrack([]int64{n})
		for count := 1; count <= 128; count++ {
			list := slices.Repeat([]int64{n}, count)
			s := first + strings.Repeat("\x00", count-1)
			wantText(t, "PackTrack", toldBytes(impl.PackTrack(list)), toldBytes(s, true))
			wantText(t, "UnpackTrack", toldWholes(impl.UnpackTrack(s)), wholes(list))
			stored, ok := impl.StoreTrack(track("same", list...))
			wantBool(t, "StoreTrack", ok && len(stored) == 4+1+4+2+len(s)+2, true)
			wantText(t, "LoadTrack", toldTrack(impl.LoadTrack(stored)), toldTrack(track("same", list...), true))
		}
		_, ok := impl.UnpackTrack(first + strings.Repeat("\x00", 128))
		wantBool(t, "UnpackTrack of 129 integers", ok, false)
	}
}

// unpackedByHand reads the bytes of steps one by one, and fails where no integers have them.
func unpackedByHand(s string) ([]int64, bool) {
	var list []int64
	last := int64(0)
	for s != "" {
		size := 1
		for size < len(s) && s[size-1] >= 128 {
			size++
		}
		if s[size-1] >= 128 || size > 3 || size > 1 && s[size-1] == 0 {
			return nil, false
		}
		n := int64(0)
		for i := size - 1; i >= 0; i-- {
			n = 128*n + int64(s[i]%128)
		}
		if last += n / 2; n%2 == 1 {
			last -= n
		}
		if last < -27315 || last > 200000 {
			return nil, false
		}
		list = append(list, last)
		s = s[size:]
	}
	if len(list) > 128 {
		return nil, false
	}
	return list, len(list) >= 1
}

func wantUnpacked(t *testing.T, s string) {
	t.Helper()
	want, found := unpackedByHand(s)
	list, ok := impl.UnpackTrack(s)
	if ok != found || !slices.Equal(list, want) {
		t.Errorf("UnpackTrack of %q: got %v, want %v", s, list, want)
	}
	if again, packs := impl.PackTrack(list); ok && (!packs || again != s) {
		t.Errorf("UnpackTrack of %q: PackTrack leads back to %q", s, again)
	}
}

// TestP8BytesAreUnpacked checks all short texts, and that only what is packed is unpacked.
func TestP8BytesAreUnpacked(t *testing.T) {
	wantUnpacked(t, "")
	for a := range 256 {
		wantUnpacked(t, string([]byte{byte(a)}))
		for b := range 256 {
			wantUnpacked(t, string([]byte{byte(a), byte(b)}))
			for _, c := range []byte{0, 1, 2, 12, 13, 14, 24, 25, 27, 28, 127, 128, 129, 255} {
				wantUnpacked(t, string([]byte{byte(a), byte(b), c}))
			}
		}
	}
	for _, s := range []string{
		"\x80\x80\x80\x00", "\x80\x80\x80\x01", "\xff\xff\xff\x00", "\x06\x80\x00", "\x06\x81", "\x06\x80\x80\x00\x06",
		strings.Repeat("\x80", 9) + "\x02", strings.Repeat("\x80", 9) + "\x02\x06", strings.Repeat("\x80", 10) + "\x02", strings.Repeat("\xff", 9) + "\x01",
		strings.Repeat("\xff", 9) + "\x7f", "\x86" + strings.Repeat("\x80", 8) + "\x00", "\x86" + strings.Repeat("\x80", 20) + "\x01", strings.Repeat("\xff", 10000), strings.Repeat("\x80", 100000) + "\x00",
		strings.Repeat("\x00", 100000), strings.Repeat("\x02\x01", 64), strings.Repeat("\x02\x01", 64) + "\x00", strings.Repeat("\x02\x01", 64) + "\x80",
	} {
		wantUnpacked(t, s)
	}
	r := somewhere(232)
	for range 20000 {
		var s []byte
		for range r.whole(1, 12) {
			s = append(s, byte(r.whole(0, 255)))
		}
		wantUnpacked(t, string(s))
	}
}

// sealedByHand returns bytes with their check number behind them.
func sealedByHand(s string) string {
	check := 0
	for i := range len(s) {
		check = (829*check + int(s[i]) + 131) % 65003
	}
	return s + string([]byte{byte(check % 256), byte(check / 256)})
}

// storedByHand returns the bytes of a name and of packed integers, whether a track has them or not.
func storedByHand(name, packed string) string {
	return sealedByHand("TRK1" + string([]byte{byte(len(name))}) + name + string([]byte{byte(len(packed)), byte(len(packed) / 256)}) + packed)
}

func (s *somewhere) track(count int) impl.Track {
	name := ""
	for range s.whole(1, 8) {
		name += string(rune('a' + s.whole(0, 25)))
	}
	if s.whole(0, 1) == 0 {
		return track(name, s.wholes(count, -27315, 200000)...)
	}
	return track(name, s.wholes(count, 1500, 2500)...)
}

// TestP8TracksAreLoadedAsTheyWereStored also checks all bytes that are stored, the check number included.
func TestP8TracksAreLoadedAsTheyWereStored(t *testing.T) {
	r := somewhere(233)
	for count := 1; count <= 128; count++ {
		for range 5 {
			x := r.track(count)
			s, ok := impl.StoreTrack(x)
			wantText(t, "StoreTrack", toldBytes(s, ok), toldBytes(storedByHand(x.Name, packedByHand(x.Hundreds)), true))
			wantText(t, "LoadTrack", toldTrack(impl.LoadTrack(s)), toldTrack(x, true))
		}
	}
	wantText(t, "StoreTrack", toldBytes(impl.StoreTrack(track("a", 3))), toldBytes(sealedByHand("TRK1\x01a\x01\x00\x06"), true))
}

// TestP8DamagedTracksAreNotLoaded checks each bit, each byte that is lost, and each byte more.
func TestP8DamagedTracksAreNotLoaded(t *testing.T) {
	r := somewhere(234)
	for _, count := range []int{1, 2, 7, 64, 128} {
		s, _ := impl.StoreTrack(r.track(count))
		for i := range len(s) {
			for bit := range 8 {
				damaged := []byte(s)
				damaged[i] ^= 1 << bit
				_, ok := impl.LoadTrack(string(damaged))
				wantBool(t, "LoadTrack of another bit", ok, false)
			}
			_, begins := impl.LoadTrack(s[:i])
			_, ends := impl.LoadTrack(s[i+1:])
			_, lost := impl.LoadTrack(s[:i] + s[i+1:])
			_, more := impl.LoadTrack(s[:i] + "a" + s[i:])
			wantBool(t, "LoadTrack of other bytes", begins || ends || lost || more, false)
		}
		for _, more := range []string{"\x00", "x", s, "TRK1"} {
			_, ok := impl.LoadTrack(s + more)
			wantBool(t, "LoadTrack with more behind", ok, false)
		}
	}
}

// TestP8TracksThatNobodyStoresAreNotLoaded checks bytes whose check number is right.
func TestP8TracksThatNobodyStoresAreNotLoaded(t *testing.T) {
	for _, s := range []string{
		"", "TRK1", "TRK1\x01", "TRK1\x01a", "TRK1\x01a\x01", "TRK1\x01a\x01\x00", "TRK1\x01a\x01\x00\x06",
		sealedByHand(""), sealedByHand("TRK1"), sealedByHand("TRK2\x01a\x01\x00\x06"), sealedByHand("trk1\x01a\x01\x00\x06"), sealedByHand(" TRK1\x01a\x01\x00\x06"),
		sealedByHand("TRK1\x02a\x01\x00\x06"), sealedByHand("TRK1\x00a\x01\x00\x06"), sealedByHand("TRK1\xffa\x01\x00\x06"),
		sealedByHand("TRK1\x01a\x00\x00\x06"), sealedByHand("TRK1\x01a\x02\x00\x06"), sealedByHand("TRK1\x01a\x00\x01\x06"), sealedByHand("TRK1\x01a\xff\xff\x06"), sealedByHand("TRK1\x01a\x01\x00\x06\x06"),
		storedByHand("a", ""), storedByHand("a", "\x80"), storedByHand("a", "\x06\x80"), storedByHand("a", "\x80\x00"), storedByHand("a", "\x86\x00"),
		storedByHand("a", packedByHand([]int64{200001})), storedByHand("a", packedByHand([]int64{-27316})), storedByHand("a", strings.Repeat("\x00", 129)),
	} {
		_, ok := impl.LoadTrack(s)
		list, n, some := impl.RecoverTracks(s)
		wantBool(t, "LoadTrack of "+toldBytes(s, true), ok, false)
		wantText(t, "RecoverTracks of "+toldBytes(s, true), toldRecovered(list, n, some), "- 0")
	}
	for _, name := range badNames() {
		_, ok := impl.LoadTrack(storedByHand(name, "\x06"))
		wantBool(t, "LoadTrack with a name like "+name, ok, false)
	}
	wantText(t, "LoadTrack of what could be stored", toldTrack(impl.LoadTrack(storedByHand("a", packedByHand([]int64{200000, -27315})))), "a:200000,-27315")
	wantText(t, "LoadTrack of the most", toldTrack(impl.LoadTrack(storedByHand("abcdefgh", strings.Repeat("\x00", 128)))), toldTrack(track("abcdefgh", make([]int64, 128)...), true))
}

func TestP8ListsOfTracksAreStored(t *testing.T) {
	r := somewhere(235)
	for count := range 12 {
		var list []impl.Track
		want := ""
		for range count {
			x := r.track(int(r.whole(1, 20)))
			list = append(list, x)
			want += storedByHand(x.Name, packedByHand(x.Hundreds))
		}
		wantText(t, "StoreTracks", toldBytes(impl.StoreTracks(list)), toldBytes(want, count <= 8))
		for place := range list {
			odd := slices.Clone(list)
			odd[place] = []impl.Track{track("", 1), track("a"), track("a", 200001)}[place%3]
			_, ok := impl.StoreTracks(odd)
			wantBool(t, "StoreTracks of one that is not valid", ok, false)
		}
	}
	same := slices.Repeat([]impl.Track{track("a", 3)}, 8)
	wantText(t, "StoreTracks of the same ones", toldBytes(impl.StoreTracks(same)), toldBytes(strings.Repeat(storedByHand("a", "\x06"), 8), true))
}

// TestP8TracksAreRecoveredAsFarAsTheyAreIntact checks all beginnings of tracks, and damage at each byte.
func TestP8TracksAreRecoveredAsFarAsTheyAreIntact(t *testing.T) {
	r := somewhere(236)
	for _, count := range []int{1, 2, 3, 7, 8, 9, 11} {
		var list []impl.Track
		s, ends := "", []int{0}
		for range count {
			x := r.track(int(r.whole(1, 12)))
			list = append(list, x)
			s += storedByHand(x.Name, packedByHand(x.Hundreds))
			ends = append(ends, len(s))
		}
		for size := range len(s) + 1 {
			whole := 0
			for whole < min(count, 8) && ends[whole+1] <= size {
				whole++
			}
			want := toldRecovered(list[:whole], int64(ends[whole]), true)
			wantText(t, "RecoverTracks of a beginning", toldRecovered(impl.RecoverTracks(s[:size])), want)
			if size < len(s) {
				damaged := []byte(s)
				damaged[size] ^= byte(1 + size%255)
				wantText(t, "RecoverTracks of damaged ones", toldRecovered(impl.RecoverTracks(string(damaged))), want)
				wantText(t, "RecoverTracks with more behind", toldRecovered(impl.RecoverTracks(s[:ends[whole]]+"x"+s[ends[whole]:])), want)
			}
		}
		wantText(t, "RecoverTracks behind something", toldRecovered(impl.RecoverTracks("x"+s)), "- 0")
	}
	wantText(t, "RecoverTracks of nothing", toldRecovered(impl.RecoverTracks("")), "- 0")
}
