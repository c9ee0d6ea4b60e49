package tests

import (
	"math"
	"strconv"
	"strings"
	"testing"

	"loop.example/g01309/impl"
)

// Numbers by their bits, for the tests of all chapters.
const (
	plusZero    = 0x00000000
	minusZero   = 0x80000000
	leastBits   = 0x00000001
	belowNormal = 0x007fffff
	leastNormal = 0x00800000
	oneBits     = 0x3f800000
	greatest    = 0x7f7fffff
	plusInf     = 0x7f800000
	minusInf    = 0xff800000
	nanBits     = 0x7fc00000
)

func num(bits uint32) float32 { return math.Float32frombits(bits) }

// bitsOf tells a number by its bits without the package under test.
func bitsOf(x float32) uint32 {
	if x != x {
		return nanBits
	}
	return math.Float32bits(x)
}

func hex(bits uint32) string { return strconv.FormatUint(uint64(bits), 16) }

func wantBits(t *testing.T, what string, got float32, want uint32) {
	t.Helper()
	if bitsOf(got) != want {
		t.Errorf("%s: got %s (%v), want %s (%v)", what, hex(bitsOf(got)), got, hex(want), num(want))
	}
}

func wantParts(t *testing.T, what string, got complex64, re, im uint32) {
	t.Helper()
	wantBits(t, what+", real part", real(got), re)
	wantBits(t, what+", imaginary part", imag(got), im)
}

func wantBool(t *testing.T, what string, got, want bool) {
	t.Helper()
	if got != want {
		t.Errorf("%s: got %v, want %v", what, got, want)
	}
}

// strangeNumbers are numbers of all kinds, with several not-a-numbers.
func strangeNumbers() []float32 {
	var list []float32
	for _, bits := range []uint32{
		plusZero, minusZero, leastBits, 0x80000001, belowNormal, 0x807fffff,
		leastNormal, 0x80800000, oneBits, 0xbf800000, greatest, 0xff7fffff,
		plusInf, minusInf, nanBits, 0x7f800001, 0xffc00001, 0xffffffff,
		0x3e800000, 0xbe800000, 0x3f000000, 0x3f400000, 0x3fc00000,
		0x59800000, 0xd9800000, 0x43480000, 0x43480001, 0xc3480000, 0xc3480001,
	} {
		list = append(list, num(bits))
	}
	return list
}

// tell writes a result so that equal results, and only these, have equal texts.
func tell(results ...any) string {
	var out strings.Builder
	for _, r := range results {
		switch x := r.(type) {
		case bool:
			out.WriteString(strconv.FormatBool(x))
		case int64:
			out.WriteString(strconv.FormatInt(x, 10))
		case string:
			out.WriteString(strconv.Quote(x))
		case float32:
			out.WriteString(hex(bitsOf(x)))
		case complex64:
			out.WriteString(tell(real(x), imag(x)))
		case []float32:
			for _, y := range x {
				out.WriteString(tell(y))
			}
		case []complex64:
			for _, y := range x {
				out.WriteString(tell(y))
			}
		case []int64:
			for _, y := range x {
				out.WriteString(tell(y))
			}
		case []bool:
			for _, y := range x {
				out.WriteString(tell(y))
			}
		case impl.Rod:
			out.WriteString(tell(x.Wides, x.Eases, x.Holds, x.Warms))
		case impl.End:
			out.WriteString(tell(x.Kind, x.Warm, x.Ease))
		case impl.Stuff:
			out.WriteString(tell(x.Solid, x.Fluid, x.EaseSolid, x.EaseFluid, x.Point, x.Latent))
		case impl.Bar:
			out.WriteString(tell(x.Stuff, x.Step, x.Heats))
		case impl.Cup:
			out.WriteString(tell(x.Mass, x.Heat))
		case impl.Plate:
			out.WriteString(tell(x.Wide, x.High, x.Warms, x.Eases, x.Gains, x.Held))
		case impl.Face:
			out.WriteString(tell(x.Wide, x.Shine, x.Warm))
		case []impl.Face:
			for _, y := range x {
				out.WriteString(tell(y))
			}
		case impl.House:
			out.WriteString(houseText(x))
		case impl.Heater:
			out.WriteString(heatersText([]impl.Heater{x}))
		case []impl.Heater:
			out.WriteString(heatersText(x))
		case impl.Guess:
			out.WriteString(guessText(x))
		case impl.Track:
			out.WriteString(strconv.Quote(tracksText([]impl.Track{x})))
		case []impl.Track:
			out.WriteString(strconv.Quote(tracksText(x)))
		case impl.Desk:
			out.WriteString(tell(x.Rod, x.Left, x.Right, x.Bar, x.Faces, x.House))
		case []string:
			for _, y := range x {
				out.WriteString(tell(y))
			}
		default:
			panic("a type that tell does not know")
		}
		out.WriteString(" ")
	}
	return out.String()
}

func all(results ...any) []any { return results }
