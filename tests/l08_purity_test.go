package tests

import (
	"math"
	"slices"
	"strings"
	"testing"

	"loop.example/g01309/impl"
)

// outcomesOfDesks calls all functions of chapter 8 with a desk, and with a line as
// the text of everything, that may fail.
func outcomesOfDesks(d impl.Desk, line string) []outcome {
	return []outcome{
		{"RodText", all(impl.RodText(d.Rod))},
		{"EndText", all(impl.EndText(d.Left))},
		{"BarText", all(impl.BarText(d.Bar))},
		{"FacesText", all(impl.FacesText(d.Faces))},
		{"HouseText", all(impl.HouseText(d.House))},
		{"DeskCommand", all(impl.DeskCommand(d, line))},
		{"RunDesk", all(impl.RunDesk(d, line+"\n"))},
		{"RunDesk of a text", all(impl.RunDesk(d, line))},
		{"RunJournal", all(impl.RunJournal(d, journalByHand(line, line)))},
		{"RunJournal of a text", all(impl.RunJournal(d, line))},
	}
}

// outcomesOfTexts calls all functions of chapter 8 that take no desk.
func outcomesOfTexts(lines []string, t string) []outcome {
	return []outcome{
		{"ReadRod", all(impl.ReadRod(t))},
		{"ReadEnd", all(impl.ReadEnd(t))},
		{"ReadBar", all(impl.ReadBar(t))},
		{"ReadFaces", all(impl.ReadFaces(t))},
		{"ReadHouse", all(impl.ReadHouse(t))},
		{"CountOutputs", all(impl.CountOutputs(t))},
		{"RecoverJournal", all(impl.RecoverJournal(t))},
		{"JournalOf", all(impl.JournalOf(lines))},
		{"JournalOf the text", all(impl.JournalOf([]string{t}))},
	}
}

// deskWithRoom returns a copy of a desk with unused capacity, and a function that
// reports whether the copy and its unused capacity are still as they were.
func deskWithRoom(d impl.Desk) (impl.Desk, func() bool) {
	rod, sameRod := rodWithRoom(d.Rod)
	heats, sameHeats := withRoom(d.Bar.Heats, sameBits)
	faces, sameFaces := withRoom(d.Faces, sameFace)
	house, sameHouse := houseWithRoom(d.House)
	d.Rod, d.Bar.Heats, d.Faces, d.House = rod, heats, faces, house
	return d, func() bool { return sameRod() && sameHeats() && sameFaces() && sameHouse() }
}

// checkDesks calls all functions twice, and checks what they return and that they leave the desk alone.
func checkDesks(t *testing.T, d impl.Desk, line string) {
	t.Helper()
	desk, same := deskWithRoom(d)
	checkTwice(t, func() []outcome { return outcomesOfDesks(desk, line) })
	wantBool(t, "ValidDesk", impl.ValidDesk(desk), impl.ValidDesk(d))
	checkSame(t, "SameDesk", impl.SameDesk, desk, d, true)
	wantBool(t, "the desk is unchanged", same(), true)
}

// checkLines does the same with the functions that take no desk.
func checkLines(t *testing.T, lines []string, text string) {
	t.Helper()
	list, same := withRoom(lines, equal[string])
	checkTwice(t, func() []outcome { return outcomesOfTexts(list, text) })
	wantBool(t, "the lines are unchanged", same(), true)
}

// linesOfAllForms has one line of each form, which are carried out at most desks.
func linesOfAllForms() []string {
	lines := append(partNames(), deskLines(impl.NewDesk())...)
	return append(lines, "step 3d800000", "rows 3f800000", "rest", "flows", "heat", "melted", "warmth", "at 3f800000", "where 3f800000", "shine", "loss 3f800000",
		"melt 3f800000 40000000 3a000000", "tick 3f800000 40000000 3d800000", "settle 3f800000 40000000")
}

func TestP1DesksOfAllNumbers(t *testing.T) {
	lines := linesOfAllForms()
	for i, x := range strangeNumbers() {
		for k, y := range strangeNumbers() {
			d := impl.NewDesk()
			switch (i + k) % 6 {
			case 0:
				d.Rod.Warms[0], d.Rod.Eases[1] = x, y
			case 1:
				d.Left.Warm, d.Left.Ease = x, y
			case 2:
				d.Right.Warm, d.Left.Warm = x, y
			case 3:
				d.Bar.Heats[0], d.Bar.Stuff.Point = x, y
			case 4:
				d.Faces[0].Warm, d.Faces[1].Wide = x, y
			default:
				d.House.Warms[1], d.House.Links[0].Pass = x, y
			}
			checkDesks(t, d, lines[(7*i+k)%len(lines)])
			for _, line := range []string{"step ", "rows ", "at ", "where ", "loss ", "settle 3f800000 ", "tick 3f800000 " + digits(y) + " ", "melt " + digits(y) + " 3f800000 "} {
				checkDesks(t, impl.NewDesk(), line+digits(x))
				checkDesks(t, d, line+digits(x))
			}
			checkLines(t, nil, digits(x)+";"+digits(y)+";3f800000;"+digits(x))
			checkLines(t, []string{digits(x)}, digits(x)+","+digits(y)+",3f800000")
			checkLines(t, nil, whole(int64(i%4))+":"+digits(x)+","+digits(y))
			checkLines(t, nil, digits(x)+";3f800000;"+digits(y)+";none")
		}
	}
}

func TestP1DesksOfAllKinds(t *testing.T) {
	r := somewhere(281)
	for i, d := range invalidDesks() {
		checkDesks(t, d, linesOfAllForms()[i%len(linesOfAllForms())])
		checkDesks(t, d, "")
	}
	for most := int64(1); most <= 48; most++ {
		d := r.desk(most)
		for _, line := range append(linesOfAllForms(), r.linesFor(d)...) {
			checkDesks(t, d, line)
		}
	}
	for _, n := range []int64{math.MinInt64, -1, 0, 1, 2, 3, 1 << 32, math.MaxInt64} {
		d := impl.NewDesk()
		d.Left.Kind = n
		checkDesks(t, d, "rest")
		d = impl.NewDesk()
		d.House.Links[0].A, d.House.Links[0].B = n, n^1
		checkDesks(t, d, "settle 3f800000 3f800000")
	}
	for _, count := range []int{0, 1, 2, 8, 9, 24, 25, 48, 49, 85, 86, 257, 5000} {
		d := impl.NewDesk()
		d.Rod, d.Bar.Heats, d.Faces = rodWith(make([]float32, count)...), make([]float32, count), slices.Repeat([]impl.Face{face(1, 1, 1)}, count)
		checkDesks(t, d, "rod")
		d = impl.NewDesk()
		d.House = linking(houseWith(make([]float32, min(count, 300))...), slices.Repeat([]impl.Link{link(0, 1, 1)}, count)...)
		checkDesks(t, d, "house")
		checkLines(t, make([]string, count), strings.Repeat("3f800000,", count)+"3f800000")
		checkLines(t, slices.Repeat([]string{"rest"}, count), strings.Repeat("0 \n", count))
	}
}

func TestP1DesksOfAllTexts(t *testing.T) {
	texts := append(refusedLines(), unknownLines()...)
	for _, name := range partNames() {
		for _, text := range textsOfNothing(name) {
			texts = append(texts, text, name+" "+text)
		}
	}
	texts = append(texts, "\xff\xfe", "rod \xff", strings.Repeat("\n", 20000), strings.Repeat("0 \n", 20000), strings.Repeat("0,1:3f800000/", 20000), "house 3f800000;3f800000;3f800000;"+strings.Repeat("0,1:3f800000/", 20000),
		strings.Repeat("rest\n", 3200), strings.Repeat("rest\n", 3201), "house "+strings.Repeat("/", 100000), "left "+strings.Repeat(":", 100000), "rod "+strings.Repeat(";", 100000), "melt"+strings.Repeat(" ", 100000))
	for _, text := range texts {
		checkDesks(t, impl.NewDesk(), text)
		checkLines(t, []string{text, "rest"}, text)
		checkLines(t, strings.Split(text, "\n"), journalByHand("a", "b")+text)
	}
}

// TestP1DesksThatAreTakenDoNotFail checks that the arguments of the next tests are good ones.
func TestP1DesksThatAreTakenDoNotFail(t *testing.T) {
	for _, line := range linesOfAllForms() {
		_, output, _ := impl.DeskCommand(impl.NewDesk(), line)
		wantBool(t, "the line "+line, output != "no" && output != "what", line != "where 3f800000")
		for _, o := range outcomesOfDesks(impl.NewDesk(), line) {
			wantBool(t, o.name, o.ok(), o.name != "RunDesk of a text")
		}
	}
}

func TestP1EmptyListsOfDesksAreNil(t *testing.T) {
	empty := impl.Desk{Faces: []impl.Face{}, House: impl.House{Links: []impl.Link{}}}
	for i, o := range outcomesOfDesks(empty, "rest") {
		wantText(t, o.name, tell(o.values...), tell(outcomesOfDesks(impl.Desk{}, "rest")[i].values...))
	}
	bare, other := impl.NewDesk(), impl.NewDesk()
	bare.House.Links, other.House.Links = nil, []impl.Link{}
	for _, line := range linesOfAllForms() {
		for i, o := range outcomesOfDesks(bare, line) {
			wantText(t, o.name, tell(o.values...), tell(outcomesOfDesks(other, line)[i].values...))
		}
	}
	for i, o := range outcomesOfTexts([]string{}, "") {
		wantText(t, o.name, tell(o.values...), tell(outcomesOfTexts(nil, "")[i].values...))
	}
}

// TestP1ResultsOfDesksAreNew overwrites all that a call returns, which must change
// neither the desk that it was told, nor another part of the result, nor what the
// next call returns.
func TestP1ResultsOfDesksAreNew(t *testing.T) {
	r := somewhere(282)
	for _, plain := range []impl.Desk{impl.NewDesk(), r.desk(5)} {
		d, same := deskWithRoom(plain)
		for _, line := range append(linesOfAllForms(), "what", "step none", "where 7f7fffff", "") {
			calls := func() []outcome { return outcomesOfDesks(d, line) }
			for i, o := range calls() {
				want := tell(o.values...)
				wantNewLists(t, o.name, func() []any { return calls()[i].values })
				overwrite(o.values)
				wantBool(t, o.name+" returns new memory", same(), true)
				wantText(t, o.name+" called again", tell(calls()[i].values...), want)
			}
		}
	}
	lines, sameLines := withRoom([]string{"rest", "rod"}, equal[string])
	for _, text := range append(partTexts(r.desk(5)), journalByHand("rest", "rod", ""), "ok\nno\n") {
		calls := func() []outcome { return outcomesOfTexts(lines, text) }
		for i, o := range calls() {
			want := tell(o.values...)
			wantNewLists(t, o.name, func() []any { return calls()[i].values })
			overwrite(o.values)
			wantBool(t, o.name+" returns new memory", sameLines(), true)
			wantText(t, o.name+" called again", tell(calls()[i].values...), want)
		}
	}
	wantNewLists(t, "NewDesk", func() []any { return []any{impl.NewDesk()} })
	first, want := impl.NewDesk(), tell(impl.NewDesk())
	overwrite([]any{first})
	wantText(t, "NewDesk called again", tell(impl.NewDesk()), want)
}
