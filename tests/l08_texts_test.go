package tests

import (
	"slices"
	"strings"
	"testing"

	"loop.example/g01309/impl"
)

// TestChapter8Examples asserts the examples at the end of chapter 8.
func TestChapter8Examples(t *testing.T) {
	d := impl.NewDesk()
	d, output, ok := impl.DeskCommand(d, "rest")
	wantText(t, "rest", toldText(output, ok), "40000000")
	d, output, ok = impl.DeskCommand(d, "at 3f000000")
	wantText(t, "at 3f000000", toldText(output, ok), "40400000")
	_, output, ok = impl.DeskCommand(d, "melted")
	wantText(t, "melted", toldText(output, ok), "00000000")
	_, outputs, ok := impl.RunDesk(impl.NewDesk(), "rest\nat 3f000000\nmelted\n")
	wantText(t, "all three", toldText(outputs, ok), "40000000\n40400000\n00000000\n")
	_, output, ok = impl.DeskCommand(impl.NewDesk(), "melted")
	wantText(t, "melted at a new desk", toldText(output, ok), "00000000")
}

func TestChapter8Limits(t *testing.T) {
	if impl.MaxScript != 16000 {
		t.Error("a constant is not as the chapter has it")
	}
}

func TestP9NewDesk(t *testing.T) {
	want := impl.Desk{
		Rod:  rodWith(0, 0),
		Left: held(4), Right: held(0),
		Bar: impl.Bar{
			Stuff: impl.Stuff{Solid: 1, Fluid: 1, EaseSolid: 1, EaseFluid: 1, Point: 0, Latent: 8},
			Step:  1, Heats: []float32{-2, -2},
		},
		Faces: []impl.Face{face(1, 1, 300), face(1, 1, 300)},
		House: impl.House{Warms: []float32{10, 10}, Holds: []float32{1, 1}, Leaks: []float32{0.5, 0.5}, Links: []impl.Link{link(0, 1, 1)}},
	}
	wantText(t, "NewDesk", tell(impl.NewDesk()), tell(want))
	wantBool(t, "ValidDesk", impl.ValidDesk(impl.NewDesk()), true)
	checkSame(t, "SameDesk", impl.SameDesk, impl.NewDesk(), want, true)
	wantText(t, "its parts", strings.Join(partTexts(impl.NewDesk()), " "), "3f800000,3f800000;3f800000,3f800000;3f800000,3f800000;00000000,00000000 "+
		"0:40800000,3f800000 0:00000000,3f800000 3f800000,3f800000,3f800000,3f800000,00000000,41000000;3f800000;c0000000,c0000000 "+
		"3f800000,3f800000,43960000,3f800000,3f800000,43960000 41200000,41200000;3f800000,3f800000;3f000000,3f000000;0,1:3f800000")
}

func TestP9ValidDesks(t *testing.T) {
	r := somewhere(252)
	for range 100 {
		wantBool(t, "ValidDesk", impl.ValidDesk(r.desk(48)), true)
	}
	for _, d := range invalidDesks() {
		wantBool(t, "ValidDesk of "+tell(d), impl.ValidDesk(d), false)
	}
}

// partsThatDiffer changes each number of a desk, and each length of a list, one after another.
func partsThatDiffer() []impl.Desk {
	var list []impl.Desk
	fresh := func() impl.Desk {
		r := somewhere(253)
		d := r.desk(4)
		d.Faces, d.House = append(twoFaces(), face(1, 1, 1)), threeRooms()
		return d
	}
	numbersIn := func(d *impl.Desk) []*float32 {
		s := &d.Bar.Stuff
		all := []*float32{&d.Left.Warm, &d.Left.Ease, &d.Right.Warm, &d.Right.Ease,
			&s.Solid, &s.Fluid, &s.EaseSolid, &s.EaseFluid, &s.Point, &s.Latent, &d.Bar.Step}
		for _, numbers := range listsOf(*d) {
			for i := range numbers {
				all = append(all, &numbers[i])
			}
		}
		for i := range d.Faces {
			all = append(all, &d.Faces[i].Wide, &d.Faces[i].Shine, &d.Faces[i].Warm)
		}
		for i := range d.House.Links {
			all = append(all, &d.House.Links[i].Pass)
		}
		return all
	}
	plain := fresh()
	for i := range numbersIn(&plain) {
		for _, x := range []float32{-77, num(plusInf), num(nanBits)} {
			d := fresh()
			*numbersIn(&d)[i] = x
			list = append(list, d)
		}
	}
	for _, change := range []func(d *impl.Desk){
		func(d *impl.Desk) { d.Left.Kind += 1 << 32 },
		func(d *impl.Desk) { d.Right.Kind++ },
		func(d *impl.Desk) { d.Left, d.Right = d.Right, d.Left },
		func(d *impl.Desk) { d.Rod.Wides = append(d.Rod.Wides, 1) },
		func(d *impl.Desk) { d.Rod.Eases = d.Rod.Eases[1:] },
		func(d *impl.Desk) { d.Rod.Holds = nil },
		func(d *impl.Desk) { d.Rod.Warms = append(d.Rod.Warms, 1) },
		func(d *impl.Desk) { d.Bar.Heats = append(d.Bar.Heats, 1) },
		func(d *impl.Desk) { d.Faces = d.Faces[:2] },
		func(d *impl.Desk) { d.Faces[0], d.Faces[1] = d.Faces[1], d.Faces[0] },
		func(d *impl.Desk) { d.House.Warms = d.House.Warms[:2] },
		func(d *impl.Desk) { d.House.Holds = append(d.House.Holds, 1) },
		func(d *impl.Desk) { d.House.Leaks = nil },
		func(d *impl.Desk) { d.House.Links = d.House.Links[:1] },
		func(d *impl.Desk) { d.House.Links[0].A += 1 << 32 },
		func(d *impl.Desk) { d.House.Links[1].B++ },
	} {
		d := fresh()
		change(&d)
		list = append(list, d)
	}
	return append(list, fresh())
}

func TestP9SameDesks(t *testing.T) {
	list := partsThatDiffer()
	plain := list[len(list)-1]
	for i, d := range list {
		checkSame(t, "SameDesk of the change "+whole(int64(i)), impl.SameDesk, plain, d, i == len(list)-1)
		// Whether it is valid or not.
		checkSame(t, "SameDesk of one and the same", impl.SameDesk, d, partsThatDiffer()[i], true)
	}
	zero, other := impl.NewDesk(), impl.NewDesk()
	other.Right.Warm = num(minusZero)
	checkSame(t, "SameDesk of both zeros", impl.SameDesk, zero, other, false)
	checkSame(t, "SameDesk of nothing", impl.SameDesk, impl.Desk{}, impl.Desk{Faces: []impl.Face{}, House: impl.House{Links: []impl.Link{}}}, true)
}

// TestP9TextsByHand asserts texts that are written out.
func TestP9TextsByHand(t *testing.T) {
	rod := impl.Rod{Wides: []float32{1, 2}, Eases: []float32{0.5, 4}, Holds: []float32{3, num(leastBits)}, Warms: []float32{num(minusZero), -2}}
	text := "3f800000,40000000;3f000000,40800000;40400000,00000001;80000000,c0000000"
	wantText(t, "RodText", toldText(impl.RodText(rod)), text)
	wantText(t, "ReadRod", toldRod(impl.ReadRod(text)), text)
	for kind, text := range []string{"0:c0000000,3f800000", "1:c0000000,3f800000", "2:c0000000,3f800000"} {
		e := impl.End{Kind: int64(kind), Warm: -2, Ease: 1}
		wantText(t, "EndText", toldText(impl.EndText(e)), text)
		wantText(t, "ReadEnd", toldEnd(impl.ReadEnd(text)), text)
	}
	bar := impl.Bar{Stuff: impl.Stuff{Solid: 1, Fluid: 2, EaseSolid: 3, EaseFluid: 4, Point: -0.5, Latent: 8}, Step: 0.25, Heats: []float32{5}}
	text = "3f800000,40000000,40400000,40800000,bf000000,41000000;3e800000;40a00000"
	wantText(t, "BarText", toldText(impl.BarText(bar)), text)
	wantText(t, "ReadBar", toldBar(impl.ReadBar(text)), text)
	faces := []impl.Face{face(2, 0.5, 300), face(1, 1, 0)}
	text = "40000000,3f000000,43960000,3f800000,3f800000,00000000"
	wantText(t, "FacesText", toldText(impl.FacesText(faces)), text)
	wantText(t, "ReadFaces", toldFaces(impl.ReadFaces(text)), text)
	text = "41a00000,41200000,41700000;40000000,40800000,41000000;3f000000,00000000,3f800000;0,1:40000000/2,1:3f000000"
	wantText(t, "HouseText", toldText(impl.HouseText(threeRooms())), text)
	wantText(t, "ReadHouse", toldParts(impl.ReadHouse(text)), text)
	wantText(t, "HouseText without links", toldText(impl.HouseText(houseWith(3))), "40400000;3f800000;3f800000;none")
	wantText(t, "ReadHouse without links", toldParts(impl.ReadHouse("40400000;3f800000;3f800000;none")), "40400000;3f800000;3f800000;none")
}

// checkTexts checks that the parts of a desk have their texts, and that these are read back.
func checkTexts(t *testing.T, d impl.Desk) {
	t.Helper()
	rod, end, bar, faces, house := textOfRod(d.Rod), textOfEnd(d.Left), textOfBar(d.Bar), textOfFaces(d.Faces), textOfHouse(d.House)
	wantText(t, "RodText", toldText(impl.RodText(d.Rod)), rod)
	wantText(t, "ReadRod", toldRod(impl.ReadRod(rod)), rod)
	wantText(t, "EndText", toldText(impl.EndText(d.Left)), end)
	wantText(t, "ReadEnd", toldEnd(impl.ReadEnd(end)), end)
	wantText(t, "BarText", toldText(impl.BarText(d.Bar)), bar)
	wantText(t, "ReadBar", toldBar(impl.ReadBar(bar)), bar)
	wantText(t, "FacesText", toldText(impl.FacesText(d.Faces)), faces)
	wantText(t, "ReadFaces", toldFaces(impl.ReadFaces(faces)), faces)
	wantText(t, "HouseText", toldText(impl.HouseText(d.House)), house)
	wantText(t, "ReadHouse", toldParts(impl.ReadHouse(house)), house)
}

func TestP9TextsLeadBack(t *testing.T) {
	r := somewhere(254)
	for most := int64(1); most <= 48; most++ {
		for range 10 {
			checkTexts(t, r.desk(most))
		}
	}
	most := impl.Desk{
		Rod: r.rod(48), Left: held(num(greatest)), Bar: r.bar(48), Faces: r.faces(8),
		House: linking(r.house(8), slices.Repeat([]impl.Link{link(7, 0, num(leastBits))}, 24)...),
	}
	checkTexts(t, most)
	least := impl.Desk{Rod: rodWith(num(minusZero)), Left: inAir(num(minusZero), num(leastBits)), Bar: barWith(num(minusZero)), Faces: []impl.Face{face(1, 1, num(minusZero))}, House: houseWith(num(minusZero))}
	least.House.Leaks[0] = num(minusZero)
	checkTexts(t, least)
}

// TestP9InvalidPartsHaveNoTexts also checks that what their texts would be is not read.
func TestP9InvalidPartsHaveNoTexts(t *testing.T) {
	for _, r := range invalidRods() {
		wantText(t, "RodText of "+tell(r), toldText(impl.RodText(r)), "fail")
		wantText(t, "ReadRod of "+textOfRod(r), toldRod(impl.ReadRod(textOfRod(r))), "fail")
	}
	for kind := range int64(4) {
		for _, e := range append(invalidEnds(kind), impl.End{Kind: 3, Ease: 1}, impl.End{Kind: -1, Ease: 1}, impl.End{Kind: 1 << 32, Ease: 1}) {
			wantText(t, "EndText of "+tell(e), toldText(impl.EndText(e)), "fail")
			wantText(t, "ReadEnd of "+textOfEnd(e), toldEnd(impl.ReadEnd(textOfEnd(e))), "fail")
		}
	}
	for _, b := range invalidBars() {
		wantText(t, "BarText of "+tell(b), toldText(impl.BarText(b)), "fail")
		wantText(t, "ReadBar of "+textOfBar(b), toldBar(impl.ReadBar(textOfBar(b))), "fail")
	}
	nine := slices.Repeat(twoFaces(), 5)[:9]
	for _, f := range invalidFaces() {
		for _, list := range [][]impl.Face{{f}, {face(1, 1, 1), f}, {f, face(1, 1, 1)}, nil, nine} {
			wantText(t, "FacesText of "+tell(list), toldText(impl.FacesText(list)), "fail")
			wantText(t, "ReadFaces of "+textOfFaces(list), toldFaces(impl.ReadFaces(textOfFaces(list))), "fail")
		}
	}
	for _, h := range invalidHouses() {
		wantText(t, "HouseText of "+tell(h), toldText(impl.HouseText(h)), "fail")
		wantText(t, "ReadHouse of "+textOfHouse(h), toldParts(impl.ReadHouse(textOfHouse(h))), "fail")
	}
}

// textsOfNothing are texts that no part of a desk with the name has, though many nearly do.
func textsOfNothing(name string) []string {
	const one = "3f800000"
	list := []string{"", "none", ";", ":", ",", "/", "none;none;none;none", ";;;", "none;none;none", "none:none", "0:none", "\n", "\x00", "é", "ok", one, strings.Repeat("none;", 1000)}
	switch name {
	case "rod":
		list = append(list, one+";"+one+";"+one, one+";"+one+";"+one+";"+one+";"+one, one+";"+one+";"+one+";"+one+";", ";"+one+";"+one+";"+one+";"+one,
			one+";"+one+";"+one+";none", one+";"+one+";"+one+";", one+","+one+";"+one+";"+one+";"+one, one+";"+one+";"+one+";"+one+",",
			"3F800000;"+one+";"+one+";"+one, "3f80000;"+one+";"+one+";"+one, "03f800000;"+one+";"+one+";"+one, one+";"+one+";"+one+"; "+one,
			one+";"+one+";"+one+";"+one+"\n", one+";"+one+";"+one+";7f800001", one+";"+one+";"+one+";7fc00000", one+","+one+","+one+","+one, one+":"+one+":"+one+":"+one)
	case "left", "right":
		list = append(list, "00:"+one+","+one, "+0:"+one+","+one, "-0:"+one+","+one, " 0:"+one+","+one, "0 :"+one+","+one, ":"+one+","+one, "a:"+one+","+one, "3:"+one+","+one, "-1:"+one+","+one,
			"0;"+one+","+one, one+","+one, "0:"+one, "0:"+one+","+one+","+one, "0:"+one+","+one+",", "0:"+one+":"+one, "0::"+one+","+one, "0:"+one+","+one+":", "0:0:"+one+","+one,
			"0:"+one+",3F800000", "0:"+one+","+one+"\n", "1000000000000001:"+one+","+one, "18446744073709551616:"+one+","+one, "none:"+one+","+one, "0,0:"+one+","+one, "0x0:"+one+","+one)
	case "bar":
		six := strings.Repeat(one+",", 5) + one
		list = append(list, six, six+";"+one, six+";"+one+";none", six+";"+one+";", six+";none;"+one, six+";;"+one, six+";"+one+","+one+";"+one, six+";"+one+";"+one+";"+one, six+";"+one+";"+one+";",
			";"+six+";"+one+";"+one, six+","+one+";"+one+";"+one, six[9:]+";"+one+";"+one, "none;"+one+";"+one, six+";"+one+";"+one+",", six+";"+one+";"+one+"\n", six+":"+one+":"+one)
	case "faces":
		list = append(list, one+","+one, one+","+one+","+one+",", ","+one+","+one+","+one, one+","+one+","+one+","+one, one+","+one+","+one+","+one+","+one,
			one+";"+one+";"+one, one+","+one+","+one+"\n", one+","+one+",3F800000", one+","+one+",7fc00000", strings.Repeat(one+",", 26)+one, strings.Repeat(one+",", 257)+one)
	case "house":
		two := one + "," + one
		lists := two + ";" + two + ";" + two + ";"
		list = append(list, lists[:len(lists)-1], lists, lists+"none;", lists+"none;none", lists+"None", lists+"none ", lists+"none/none", lists+"none/0,1:"+one, lists+"0,1:"+one+"/none",
			lists+"0,1", lists+"0,1:", lists+":"+one, lists+"0:"+one, lists+"0,1,0:"+one, lists+"none:"+one, lists+"0,1:none", lists+"0,1:"+two, lists+"0,1:"+one+":"+one, lists+"0,1;"+one, lists+"0:1:"+one,
			lists+"0,1:"+one+"/", lists+"/0,1:"+one, lists+"0,1:"+one+"//0,1:"+one, lists+"0,1:"+one+",0,1:"+one, lists+"00,1:"+one, lists+"0, 1:"+one, lists+"0,+1:"+one, lists+"0,1:3F800000",
			lists+"0,0:"+one, lists+"0,2:"+one, lists+"-1,0:"+one, lists+"0,1:00000000", lists+"0,1:"+one+"\n", lists+strings.Repeat("0,1:"+one+"/", 24)+"0,1:"+one,
			"none;"+two+";"+two+";none", two+";"+one+";"+two+";none", two+";"+two+";none;none")
	}
	return list
}

// TestP9TextsOfNothingAreNotRead also checks the lines that have them.
func TestP9TextsOfNothingAreNotRead(t *testing.T) {
	r := somewhere(255)
	d := r.desk(4)
	for _, name := range partNames() {
		for _, text := range textsOfNothing(name) {
			got, read := "", false
			switch name {
			case "rod":
				x, ok := impl.ReadRod(text)
				got, read = tell(x), ok
			case "bar":
				x, ok := impl.ReadBar(text)
				got, read = tell(x), ok
			case "faces":
				x, ok := impl.ReadFaces(text)
				got, read = tell(x), ok
			case "house":
				x, ok := impl.ReadHouse(text)
				got, read = tell(x), ok
			default:
				x, ok := impl.ReadEnd(text)
				got, read = tell(x), ok
			}
			if read {
				t.Errorf("the text %.80q of %s is read as %s", text, name, got)
			}
			want := "no"
			if strings.Contains(text, " ") {
				want = "what"
			}
			wantText(t, name+" with "+text, toldDesk(impl.DeskCommand(d, name+" "+text)), toldDesk(d, want, true))
		}
	}
}

// TestP9OtherBytesInTexts checks that whatever is read has exactly the text that it has been read from.
func TestP9OtherBytesInTexts(t *testing.T) {
	r := somewhere(256)
	check := func(text string) {
		t.Helper()
		if x, ok := impl.ReadRod(text); ok {
			wantText(t, "ReadRod", toldText(impl.RodText(x)), text)
		}
		if x, ok := impl.ReadEnd(text); ok {
			wantText(t, "ReadEnd", toldText(impl.EndText(x)), text)
		}
		if x, ok := impl.ReadBar(text); ok {
			wantText(t, "ReadBar", toldText(impl.BarText(x)), text)
		}
		if x, ok := impl.ReadFaces(text); ok {
			wantText(t, "ReadFaces", toldText(impl.FacesText(x)), text)
		}
		if x, ok := impl.ReadHouse(text); ok {
			wantText(t, "ReadHouse", toldText(impl.HouseText(x)), text)
		}
	}
	for range 20 {
		for _, text := range partTexts(r.desk(3)) {
			for i := range len(text) {
				for _, c := range []byte("07afF,;:/ -n\n\x00") {
					check(text[:i] + string(c) + text[i+1:])
					check(text[:i] + string(c) + text[i:])
				}
				check(text[:i] + text[i+1:])
				check(text[:i])
				check(text[i:])
			}
		}
	}
}
