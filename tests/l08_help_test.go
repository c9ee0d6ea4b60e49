package tests

import (
	"slices"
	"strings"

	"loop.example/g01309/impl"
)

// numbersText writes numbers as the texts of chapter 8 have them.
func numbersText(list ...float32) string {
	if len(list) == 0 {
		return "none"
	}
	return told(list, true)
}

// The texts of parts of a desk, without the package under test and whether the
// parts are valid or not.

func textOfRod(r impl.Rod) string {
	return strings.Join([]string{numbersText(r.Wides...), numbersText(r.Eases...), numbersText(r.Holds...), numbersText(r.Warms...)}, ";")
}

func textOfEnd(e impl.End) string { return whole(e.Kind) + ":" + numbersText(e.Warm, e.Ease) }

func textOfBar(b impl.Bar) string {
	s := b.Stuff
	return numbersText(s.Solid, s.Fluid, s.EaseSolid, s.EaseFluid, s.Point, s.Latent) + ";" + numbersText(b.Step) + ";" + numbersText(b.Heats...)
}

func textOfFaces(list []impl.Face) string {
	var numbers []float32
	for _, f := range list {
		numbers = append(numbers, f.Wide, f.Shine, f.Warm)
	}
	return numbersText(numbers...)
}

func textOfHouse(h impl.House) string {
	var links []string
	for _, l := range h.Links {
		links = append(links, whole(l.A)+","+whole(l.B)+":"+numbersText(l.Pass))
	}
	if links == nil {
		links = []string{"none"}
	}
	return strings.Join([]string{numbersText(h.Warms...), numbersText(h.Holds...), numbersText(h.Leaks...), strings.Join(links, "/")}, ";")
}

// partNames are the names of the parts of a desk, in the order of partTexts.
func partNames() []string { return []string{"rod", "left", "right", "bar", "faces", "house"} }

// partTexts are the texts of the parts of a desk.
func partTexts(d impl.Desk) []string {
	return []string{textOfRod(d.Rod), textOfEnd(d.Left), textOfEnd(d.Right), textOfBar(d.Bar), textOfFaces(d.Faces), textOfHouse(d.House)}
}

// deskLines are lines that make the parts of any desk those of d.
func deskLines(d impl.Desk) []string {
	lines := partTexts(d)
	for i, name := range partNames() {
		lines[i] = name + " " + lines[i]
	}
	return lines
}

// scriptOf writes lines with a newline behind each of them.
func scriptOf(lines ...string) string {
	script := ""
	for _, line := range lines {
		script += line + "\n"
	}
	return script
}

// toldText writes a text, and fail for what has failed.
func toldText(s string, ok bool) string { return orFail(ok, s) }

func toldRod(r impl.Rod, ok bool) string { return orFail(ok, textOfRod(r)) }

func toldEnd(e impl.End, ok bool) string { return orFail(ok, textOfEnd(e)) }

func toldBar(b impl.Bar, ok bool) string { return orFail(ok, textOfBar(b)) }

func toldFaces(list []impl.Face, ok bool) string { return orFail(ok, textOfFaces(list)) }

func toldParts(h impl.House, ok bool) string { return orFail(ok, textOfHouse(h)) }

// toldDesk writes a desk, an output, and whether both are there.
func toldDesk(d impl.Desk, output string, ok bool) string {
	return tell(partTexts(d)) + tell(output, ok)
}

func toldRecovery(lines []string, n int64, ok bool) string { return tell(lines, n, ok) }

// end returns an end of any kind.
func (s *somewhere) end() impl.End {
	return impl.End{Kind: s.whole(0, 2), Warm: s.number(-40, 60), Ease: s.number(0.2, 3)}
}

// desk returns a desk whose parts have up to most cells, faces and rooms, and for
// which no function of a line fails because of its size.
func (s *somewhere) desk(most int64) impl.Desk {
	return impl.Desk{
		Rod: s.rod(int(s.whole(1, most))), Left: s.end(), Right: s.end(), Bar: s.bar(int(s.whole(1, most))),
		Faces: s.faces(int(s.whole(1, min(most, 8)))), House: s.house(s.whole(1, min(most, 8))),
	}
}

// invalidDesks are desks one part of which is wrong in one way.
func invalidDesks() []impl.Desk {
	var list []impl.Desk
	wrong := func(change func(d *impl.Desk)) {
		r := somewhere(251)
		d := r.desk(3)
		change(&d)
		list = append(list, d)
	}
	for _, r := range invalidRods() {
		wrong(func(d *impl.Desk) { d.Rod = r })
	}
	for kind := range int64(4) {
		for _, e := range append(invalidEnds(kind), impl.End{Kind: 3, Ease: 1}, impl.End{Kind: -1, Ease: 1}) {
			wrong(func(d *impl.Desk) { d.Left = e })
			wrong(func(d *impl.Desk) { d.Right = e })
		}
	}
	for _, b := range invalidBars() {
		wrong(func(d *impl.Desk) { d.Bar = b })
	}
	for _, f := range invalidFaces() {
		wrong(func(d *impl.Desk) { d.Faces = []impl.Face{f} })
		wrong(func(d *impl.Desk) { d.Faces = append(twoFaces(), f) })
	}
	wrong(func(d *impl.Desk) { d.Faces = nil })
	wrong(func(d *impl.Desk) { d.Faces = slices.Repeat(twoFaces(), 5)[:9] })
	for _, h := range invalidHouses() {
		wrong(func(d *impl.Desk) { d.House = h })
	}
	return append(list, impl.Desk{})
}

// oneNumber reads the text of a list of one number.
func oneNumber(text string) (float32, bool) {
	if len(text) != 8 || strings.Trim(text, "0123456789abcdef") != "" {
		return 0, false
	}
	x := numbers(text)[0]
	return x, digits(x) == text
}

// numbersOf reads words each of which is the text of a list of one number.
func numbersOf(words []string) ([]float32, bool) {
	var list []float32
	for _, word := range words {
		x, ok := oneNumber(word)
		if !ok {
			return nil, false
		}
		list = append(list, x)
	}
	return list, true
}

// carriedOut carries out a line with a name and any number of numbers by what the
// functions of the other chapters tell.
func carriedOut(d impl.Desk, line string) (impl.Desk, string) {
	words := strings.Split(line, " ")
	x, ok := numbersOf(words[1:])
	if !ok {
		return d, "no"
	}
	next, list := d, []float32{0}
	rooms := len(d.House.Warms)
	switch words[0] {
	case "step":
		next.Rod, ok = impl.StepRod(d.Rod, d.Left, d.Right, x[0])
	case "rows":
		next.Rod, ok = impl.RowsRod(d.Rod, d.Left, d.Right, x[0])
	case "rest":
		next.Rod, list[0], ok = impl.SteadyRod(d.Rod, d.Left, d.Right)
	case "flows":
		list, ok = impl.FlowsInRod(d.Rod, d.Left, d.Right)
	case "heat":
		list[0], ok = impl.HeatOfRod(d.Rod)
	case "melted":
		list[0], ok = impl.MeltedOfBar(d.Bar)
	case "warmth":
		list[0], ok = impl.HeatOfHouse(d.House)
	case "at":
		list[0], ok = impl.WarmAt(d.Rod, x[0])
	case "where":
		list[0], ok = impl.PlaceOf(d.Rod, x[0])
	case "melt":
		next.Bar, ok = impl.StepBar(d.Bar, x[0], x[1], true, true, x[2])
	case "shine":
		views, _ := impl.EvenViews(d.Faces)
		list, ok = impl.NetShines(d.Faces, views)
	case "loss":
		list[0], ok = impl.LossOfHouse(d.House, x[0])
	case "tick":
		next.House, ok = impl.StepHouse(d.House, slices.Repeat(x[:1], rooms), x[1], x[2])
	case "settle":
		next.House, ok = impl.RestHouse(d.House, slices.Repeat(x[:1], rooms), x[1])
	default:
		panic("a line that carriedOut does not know")
	}
	switch {
	case !ok:
		return d, "no"
	case slices.Contains([]string{"step", "rows", "melt", "tick", "settle"}, words[0]):
		return next, "ok"
	}
	return next, numbersText(list...)
}

// checkByHand is the check number of a line behind one with another check number.
func checkByHand(check int, line string) int {
	for i := range len(line) {
		check = (829*check + int(line[i]) + 131) % 65003
	}
	return check
}

// journalByHand writes the journal of lines, whether it is too long or not.
func journalByHand(lines ...string) string {
	var journal strings.Builder
	check := 0
	for _, line := range lines {
		check = checkByHand(check, line)
		journal.WriteString(whole(int64(check)) + " " + line + "\n")
	}
	return journal.String()
}

// recoveredByHand reads a journal line by line as far as its check numbers are right.
func recoveredByHand(t string) ([]string, int64) {
	var lines []string
	length, check := 0, 0
	for _, entry := range strings.SplitAfter(t, "\n") {
		number, rest, found := strings.Cut(entry, " ")
		line, ended := strings.CutSuffix(rest, "\n")
		check = checkByHand(check, line)
		if !found || !ended || number != whole(int64(check)) {
			break
		}
		lines = append(lines, line)
		length += len(entry)
	}
	return lines, int64(length)
}
