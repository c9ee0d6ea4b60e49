package tests

import (
	"math"
	"testing"

	"loop.example/g01309/impl"
)

func TestP2Sines(t *testing.T) {
	for _, c := range [][2]uint32{
		{plusZero, plusZero}, {minusZero, minusZero}, {bitsOf(0.25), oneBits}, {bitsOf(-0.25), 0xbf800000},
		{bitsOf(0.5), minusZero}, {bitsOf(0.75), 0xbf800000}, {bitsOf(1), plusZero}, {bitsOf(-1), plusZero},
		{bitsOf(2.5), minusZero}, {bitsOf(0.125), 0x3f3504f3}, {0x3dcccccd, 0x3f167918}, {0x3e99999a, 0x3f737870},
		{0x3eaaaaab, 0x3f5db3d7}, {0xbdcccccd, 0xbf167918}, {0x3f333333, 0xbf737870}, {0x47f1205a, 0xbf74fa0b},
		{1048112978, 1065337454}, {0x000116c2, 0x0006d77d},
		// So little less than a whole turn is rounded to one: the part of the turn is 1.
		{0x80000001, minusZero}, {0xa2800000, minusZero},
		{bitsOf(0x1p52), plusZero}, {bitsOf(-0x1p52), plusZero}, {greatest, plusZero}, {0xff7fffff, plusZero},
		{plusInf, nanBits}, {minusInf, nanBits}, {nanBits, nanBits},
	} {
		wantBits(t, "SineTurns of "+hex(c[0]), impl.SineTurns(num(c[0])), c[1])
	}
}

func TestP2SinesAreNearTheirCurve(t *testing.T) {
	for i := -1000; i <= 1000; i++ {
		x := float32(i) / 353
		want := math.Sin(2 * math.Pi * float64(x))
		if got := float64(impl.SineTurns(x)); math.Abs(got-want) > 1e-7 {
			t.Errorf("SineTurns of %v: got %v, want about %v", x, got, want)
		}
	}
}

func TestP2Phasors(t *testing.T) {
	for _, c := range []struct {
		turns  float64
		re, im uint32
	}{
		{0, oneBits, plusZero}, {math.Copysign(0, -1), oneBits, minusZero}, {0.25, plusZero, oneBits},
		{0.5, 0xbf800000, plusZero}, {0.75, plusZero, 0xbf800000}, {1, oneBits, plusZero}, {-1, oneBits, plusZero},
		{-0.25, plusZero, 0xbf800000}, {0.1, 0x3f4f1bbd, 0x3f167918}, {0.2, 0x3e9e377a, 0x3f737871},
		{0.125, 0x3f3504f3, 0x3f3504f3}, {-0.3, 0xbe9e377a, 0xbf737871}, {0.375, 0xbf3504f3, 0x3f3504f3},
		{0.6, 0xbf4f1bbd, 0xbf167918}, {0.9, 0x3f4f1bbd, 0xbf167918}, {123456789.3, 0xbe9e3779, 0x3f737871},
		{1e-300, oneBits, plusZero}, {-1e-300, oneBits, plusZero}, {-1e-17, oneBits, plusZero},
		{1<<52 - 0.5, 0xbf800000, plusZero}, {1 << 52, oneBits, plusZero}, {-(1 << 52), oneBits, plusZero},
		{math.MaxFloat64, oneBits, plusZero}, {math.Inf(1), nanBits, nanBits}, {math.Inf(-1), nanBits, nanBits},
		{math.NaN(), nanBits, nanBits},
	} {
		wantParts(t, "PhasorOf", impl.PhasorOf(c.turns), c.re, c.im)
	}
}

func TestP2PhasorsHaveTheirAngles(t *testing.T) {
	for i := -49; i < 50; i++ {
		turns := float64(i) / 100
		if got := float64(impl.AngleOf(impl.PhasorOf(turns))); math.Abs(got-turns) > 1e-7 {
			t.Errorf("the angle of the phasor of %v turns: got %v", turns, got)
		}
	}
}

func TestP2Angles(t *testing.T) {
	for _, c := range []struct{ y, x, want uint32 }{
		{plusZero, oneBits, plusZero}, {minusZero, oneBits, plusZero},
		{plusZero, 0xbf800000, bitsOf(0.5)}, {minusZero, 0xbf800000, bitsOf(0.5)},
		{oneBits, plusZero, bitsOf(0.25)}, {oneBits, minusZero, bitsOf(0.25)}, {0xbf800000, plusZero, bitsOf(-0.25)},
		{oneBits, oneBits, bitsOf(0.125)}, {oneBits, 0xbf800000, bitsOf(0.375)},
		{0xbf800000, 0xbf800000, bitsOf(-0.375)}, {0xbf800000, oneBits, bitsOf(-0.125)},
		{oneBits, bitsOf(2), 0x3d972029}, {bitsOf(2), oneBits, 0x3e346fec}, {bitsOf(-3), bitsOf(0.5), 0xbe6515bf},
		{0x3dcccccd, bitsOf(-7), 0x3efed602}, {bitsOf(1e30), bitsOf(-1e-30), bitsOf(0.25)},
		{leastBits, greatest, plusZero}, {0x80000001, greatest, minusZero}, {0x80000001, 0xff7fffff, bitsOf(-0.5)},
		{plusZero, plusZero, plusZero}, {plusZero, minusZero, plusZero}, {minusZero, minusZero, plusZero}, {minusZero, plusZero, plusZero},
		{plusInf, oneBits, nanBits}, {oneBits, minusInf, nanBits}, {nanBits, oneBits, nanBits}, {oneBits, nanBits, nanBits},
		{plusInf, plusInf, nanBits}, {nanBits, plusZero, nanBits},
	} {
		what := hex(c.y) + ", " + hex(c.x)
		wantBits(t, "AngleTurns of "+what, impl.AngleTurns(num(c.y), num(c.x)), c.want)
		wantBits(t, "AngleOf of "+what, impl.AngleOf(complex(num(c.x), num(c.y))), c.want)
	}
}

func TestP2Tenths(t *testing.T) {
	for _, c := range []struct {
		bits uint32
		want int64
	}{
		{oneBits, 0}, {bitsOf(2), 30}, {bitsOf(0.5), -30}, {bitsOf(10), 100}, {bitsOf(100), 200}, {0x3a83126f, -300},
		{bitsOf(3), 48}, {0x3f817b6f, 0}, {0x3f817b70, 1}, {bitsOf(1.5), 18}, {bitsOf(0.75), -12},
		{leastBits, -4485}, {greatest, 3853},
		// These are close to where the next tenth begins.
		{1925895848, 3090}, {370806847, -2490}, {2131393532, 3827}, {712964588, -1265},
	} {
		got, ok := impl.TenthsOf(num(c.bits))
		if !ok || got != c.want {
			t.Errorf("TenthsOf of %s: got %d, %v, want %d", hex(c.bits), got, ok, c.want)
		}
	}
	for _, bits := range []uint32{plusZero, minusZero, 0x80000001, bitsOf(-1), minusInf, plusInf, nanBits} {
		got, ok := impl.TenthsOf(num(bits))
		if ok || got != 0 {
			t.Errorf("TenthsOf of %s: got %d, %v", hex(bits), got, ok)
		}
	}
}

func TestP2Logarithms(t *testing.T) {
	for _, c := range [][2]uint32{
		{oneBits, plusZero}, {bitsOf(2), 0x3f317218}, {bitsOf(0.5), 0xbf317218}, {bitsOf(10), 0x40135d8e},
		{bitsOf(0.75), 0xbe934b11}, {0x3f3fffff, 0xbe934b13}, {bitsOf(1.5), 0x3ecf991f}, {bitsOf(3), 0x3f8c9f54},
		{leastBits, 0xc2ce8ed0}, {greatest, 0x42b17218}, {0x3f800001, 0x33ffffff}, {0x3f7fffff, 0xb3800000},
		{plusZero, minusInf}, {minusZero, minusInf}, {plusInf, plusInf},
		{0x80000001, nanBits}, {bitsOf(-1), nanBits}, {minusInf, nanBits}, {nanBits, nanBits},
	} {
		wantBits(t, "LogNumber of "+hex(c[0]), impl.LogNumber(num(c[0])), c[1])
	}
}

func TestP2Exponentials(t *testing.T) {
	for _, c := range [][2]uint32{
		{plusZero, oneBits}, {minusZero, oneBits}, {oneBits, 0x402df854}, {bitsOf(-1), 0x3ebc5ab2},
		{bitsOf(0.5), 0x3fd3094c}, {bitsOf(10), 0x46ac14ee}, {bitsOf(-10), 0x383e6bce}, {bitsOf(88), 0x7ef882b7},
		{bitsOf(89), plusInf}, {bitsOf(-87), 0x00b33687}, {bitsOf(-100), 0x1b}, {bitsOf(-103), leastBits},
		{bitsOf(-104), plusZero}, {bitsOf(200), plusInf}, {bitsOf(201), plusInf}, {bitsOf(-200), plusZero}, {bitsOf(-201), plusZero},
		{1118272997, 2078404578}, {3265305424, 93172962}, {3266212149, 9415073}, {leastBits, oneBits},
		{greatest, plusInf}, {0xff7fffff, plusZero}, {plusInf, plusInf}, {minusInf, plusZero}, {nanBits, nanBits},
	} {
		wantBits(t, "ExpNumber of "+hex(c[0]), impl.ExpNumber(num(c[0])), c[1])
	}
}

func TestP2ExponentialsLeadBackFromLogarithms(t *testing.T) {
	for i := 1; i < 400; i++ {
		x := float32(i) / 16
		if got := impl.ExpNumber(impl.LogNumber(x)); math.Abs(float64(got/x-1)) > 1e-6 {
			t.Errorf("ExpNumber of LogNumber of %v: got %v", x, got)
		}
	}
}
