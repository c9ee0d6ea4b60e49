package tests

import (
	"math"
	"strconv"
	"strings"
	"testing"

	"loop.example/g01309/impl"
)

// numbers reads the hexadecimal bits of numbers without the package under test.
func numbers(text string) []float32 {
	var list []float32
	for _, word := range strings.Split(text, ",") {
		bits, err := strconv.ParseUint(word, 16, 32)
		if err != nil {
			panic(err)
		}
		list = append(list, num(uint32(bits)))
	}
	return list
}

func rodOf(text string) impl.Rod {
	lists := strings.Split(text, ";")
	return impl.Rod{Wides: numbers(lists[0]), Eases: numbers(lists[1]), Holds: numbers(lists[2]), Warms: numbers(lists[3])}
}

func endOf(text string) impl.End {
	kind, rest, _ := strings.Cut(text, ":")
	list := numbers(rest)
	return impl.End{Kind: int64(kind[0] - '0'), Warm: list[0], Ease: list[1]}
}

func digits(x float32) string {
	text := hex(bitsOf(x))
	return strings.Repeat("0", 8-len(text)) + text
}

// told writes numbers as rodCase has them, and fail for what has failed.
func told(list []float32, ok bool) string {
	if !ok {
		return "fail"
	}
	var words []string
	for _, x := range list {
		words = append(words, digits(x))
	}
	return strings.Join(words, ",")
}

func toldNumber(x float32, ok bool) string { return told([]float32{x}, ok) }

func toldWarms(r impl.Rod, ok bool) string { return told(r.Warms, ok) }

func toldComplex(list []complex64, ok bool) string {
	if !ok {
		return "fail"
	}
	var words []string
	for _, x := range list {
		words = append(words, digits(real(x))+digits(imag(x)))
	}
	return strings.Join(words, ",")
}

func wantText(t *testing.T, what, got, want string) {
	t.Helper()
	if got != want {
		t.Errorf("%s: got %s, want %s", what, got, want)
	}
}

func wantNear(t *testing.T, what string, got float32, want, near float64) {
	t.Helper()
	if !(math.Abs(float64(got)-want) <= near) {
		t.Errorf("%s: got %v, want about %v", what, got, want)
	}
}

// rodWith returns a rod whose cells have the Wide, the Ease and the Hold 1.
func rodWith(warms ...float32) impl.Rod {
	r := impl.Rod{Warms: warms}
	for range warms {
		r.Wides = append(r.Wides, 1)
		r.Eases = append(r.Eases, 1)
		r.Holds = append(r.Holds, 1)
	}
	return r
}

func held(warm float32) impl.End { return impl.End{Kind: impl.EndHeld, Warm: warm, Ease: 1} }

func shut() impl.End { return impl.End{Kind: impl.EndShut, Ease: 1} }

func inAir(warm, ease float32) impl.End {
	return impl.End{Kind: impl.EndAir, Warm: warm, Ease: ease}
}

// somewhere tells numbers from low to high that look like accidental ones, the same in each run.
type somewhere uint64

func (s *somewhere) number(low, high float64) float32 {
	*s = *s*6364136223846793005 + 1442695040888963407
	return float32(low + (high-low)*float64(*s>>11)/(1<<53))
}

func (s *somewhere) rod(count int) impl.Rod {
	var r impl.Rod
	for range count {
		r.Wides = append(r.Wides, s.number(0.2, 3))
		r.Eases = append(r.Eases, s.number(0.2, 3))
		r.Holds = append(r.Holds, s.number(0.2, 3))
		r.Warms = append(r.Warms, s.number(-40, 60))
	}
	return r
}
