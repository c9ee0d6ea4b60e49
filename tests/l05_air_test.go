package tests

import (
	"math"
	"slices"
	"testing"

	"loop.example/g01309/impl"
)

func TestP6AirAlongWalls(t *testing.T) {
	for _, c := range []struct {
		wall, air, high float32
		want            float64
	}{
		{16, 0, 1, 2.84}, {0, 16, 1, 2.84}, {1, 2, 1, 1.42}, {300, 300, 1, 0}, {281, 200, 1, 4.26}, {2, 1, 16, 0.71}, {-8, 8, 0.0625, 5.68},
	} {
		air, ok := impl.AirAlong(c.wall, c.air, c.high)
		wantBool(t, "AirAlong", ok, true)
		wantNear(t, "AirAlong of "+tell(c.wall, c.air, c.high), air, c.want, 1e-6)
	}
	for _, zeros := range [][2]uint32{{plusZero, plusZero}, {plusZero, minusZero}, {minusZero, plusZero}, {minusZero, minusZero}} {
		wantText(t, "AirAlong of zeros", toldNumber(impl.AirAlong(num(zeros[0]), num(zeros[1]), 2)), toldNumber(0, true))
	}
	for _, high := range []float32{0, num(minusZero), num(0x80000001), -1, num(plusInf), num(minusInf), num(nanBits)} {
		_, ok := impl.AirAlong(20, 10, high)
		wantBool(t, "AirAlong with the high "+digits(high), ok, false)
		_, ok = impl.AirAlong(20, 20, high)
		wantBool(t, "AirAlong with the high "+digits(high), ok, false)
	}
	for _, c := range [][3]float32{{3e38, -3e38, 1}, {-3e38, 3e38, 1}, {1, 3, num(leastBits)}} {
		_, ok := impl.AirAlong(c[0], c[1], c[2])
		wantBool(t, "AirAlong of too much", ok, false)
	}
}

func TestP6LossesOfWalls(t *testing.T) {
	r := somewhere(91)
	for range 300 {
		f, air, sky, high := r.face(), r.number(200, 320), r.number(150, 320), r.number(0.2, 4)
		loss, ok := impl.WallLoss(f, air, sky, high)
		wantBool(t, "WallLoss", ok, true)
		out, _ := impl.ShineOf(f.Warm, f.Shine)
		in, _ := impl.ShineOf(sky, f.Shine)
		along, _ := impl.AirAlong(f.Warm, air, high)
		taken := along * (f.Warm - air)
		wantText(t, "WallLoss", digits(loss), digits(out-in+taken))
		wider := f
		wider.Wide *= 2
		wantText(t, "WallLoss of a wider face", toldNumber(impl.WallLoss(wider, air, sky, high)), digits(loss))
	}
	f := face(1, 0.5, 300)
	wantText(t, "WallLoss where all is as warm", toldNumber(impl.WallLoss(f, 300, 300, 2)), toldNumber(0, true))
	for _, bad := range invalidFaces() {
		_, ok := impl.WallLoss(bad, 280, 260, 2)
		wantBool(t, "WallLoss of "+tell(bad), ok, false)
	}
	for _, c := range []struct {
		air, sky, high float32
		want           bool
	}{
		{280, 260, 2, true}, {-280, 0, 2, true}, {num(minusZero), num(minusZero), num(greatest), true},
		{280, -1, 2, false}, {280, num(0x80000001), 2, false}, {280, 260, 0, false}, {280, 260, num(minusZero), false}, {280, 260, -2, false},
		{num(plusInf), 260, 2, false}, {280, num(plusInf), 2, false}, {280, 260, num(plusInf), false},
		{num(nanBits), 260, 2, false}, {280, num(nanBits), 2, false}, {280, 260, num(nanBits), false},
		{num(minusInf), 260, 2, false}, {280, num(greatest), 2, false}, {-3e38, 260, 1e-30, false}, {-3e38, 260, 1, false},
	} {
		_, ok := impl.WallLoss(f, c.air, c.sky, c.high)
		wantBool(t, "WallLoss at "+tell(c.air, c.sky, c.high), ok, c.want)
		_, ok = impl.RestWarm(0.5, 100, c.air, c.sky, c.high)
		wantBool(t, "RestWarm at "+tell(c.air, c.sky, c.high), ok, c.want)
	}
}

// TestP6FacesAtRestLoseWhatTheyGet checks that RestWarm is where WallLoss is the sun.
func TestP6FacesAtRestLoseWhatTheyGet(t *testing.T) {
	r := somewhere(92)
	for range 300 {
		shine, sun, air, sky, high := r.number(0.05, 1), r.number(0, 1000), r.number(220, 310), r.number(180, 300), r.number(0.2, 4)
		warm, ok := impl.RestWarm(shine, sun, air, sky, high)
		wantBool(t, "RestWarm", ok && warm > 150 && warm < 1000, true)
		loss, _ := impl.WallLoss(face(1, shine, warm), air, sky, high)
		wantNear(t, "what a face at rest loses", loss, float64(sun), 0.02)
		more, _ := impl.WallLoss(face(1, shine, math.Nextafter32(warm, 2000)), air, sky, high)
		wantBool(t, "a warmer face loses more than it gets", loss <= sun && more > sun, true)
	}
	rest, ok := impl.RestWarm(1, num(greatest), 300, 300, 1)
	wantBool(t, "RestWarm in a great sun", ok, true)
	wantNear(t, "RestWarm in a great sun", rest, 2000, 1e-3)
	wantText(t, "RestWarm in great cold", toldNumber(impl.RestWarm(1, 0, -50, 0, 1)), toldNumber(0, true))
	// So near to 0, 40 halvings come to 3 times the last step, which is less than the air.
	wantText(t, "RestWarm behind the last halving", toldNumber(impl.RestWarm(1, 0, 6.8e-9, 0, 1)), toldNumber(3*2000.0/(1<<40), true))
	wantText(t, "RestWarm without a beam", toldNumber(impl.RestWarm(1, num(minusZero), 300, 300, 1)), toldNumber(impl.RestWarm(1, 0, 300, 300, 1)))
}

func TestP6FacesAtRestAreChecked(t *testing.T) {
	for _, bits := range []uint32{plusZero, minusZero, 0x80000001, bitsOf(-1), oneBits + 1, plusInf, minusInf, nanBits} {
		_, ok := impl.RestWarm(num(bits), 100, 280, 260, 2)
		wantBool(t, "RestWarm with the shine "+hex(bits), ok, false)
	}
	for _, bits := range []uint32{0x80000001, bitsOf(-1), plusInf, minusInf, nanBits} {
		_, ok := impl.RestWarm(0.5, num(bits), 280, 260, 2)
		wantBool(t, "RestWarm with the sun "+hex(bits), ok, false)
	}
	for _, bits := range []uint32{leastBits, oneBits - 1, oneBits} {
		_, ok := impl.RestWarm(num(bits), 100, 280, 260, 2)
		wantBool(t, "RestWarm with the shine "+hex(bits), ok, true)
	}
}

func TestP6Comfort(t *testing.T) {
	for _, c := range []struct {
		air, walls, wind float32
		want             float64
	}{
		{20, 24, 0, 24}, {20, 24, 0.1, 22 - 2*math.Sqrt(0.1)}, {20, 24, 0.4, (24+40)/3.0 - 2*math.Sqrt(0.4)}, {20, 24, 10, (24+200)/11.0 - 2*math.Sqrt(10)},
		{20, 20, 0.1, 20 - 2*math.Sqrt(0.1)}, {-5, 5, 0.1, -2 * math.Sqrt(0.1)}, {0, 0, 4, -4},
	} {
		feels, ok := impl.ComfortOf(c.air, c.walls, c.wind)
		wantBool(t, "ComfortOf", ok, true)
		wantNear(t, "ComfortOf "+tell(c.air, c.walls, c.wind), feels, c.want, 1e-5)
	}
	good := []float32{20, 24, 1}
	for place := range good {
		for _, bits := range []uint32{0x80000001, bitsOf(-1), plusInf, minusInf, nanBits} {
			list := slices.Clone(good)
			list[place] = num(bits)
			_, ok := impl.ComfortOf(list[0], list[1], list[2])
			wantBool(t, "ComfortOf "+tell(list), ok, place < 2 && (bits == 0x80000001 || bits == bitsOf(-1)))
		}
	}
	for _, c := range [][3]float32{{20, 24, 1e38}, {3e38, 0, 1}, {3e38, 3e38, 0.01}} {
		_, ok := impl.ComfortOf(c[0], c[1], c[2])
		wantBool(t, "ComfortOf "+tell(c[0], c[1], c[2]), ok, false)
	}
	wantText(t, "ComfortOf in still air", toldNumber(impl.ComfortOf(7, 24, num(minusZero))), toldNumber(24, true))
}
