package tests

import (
	"slices"
	"strings"
	"testing"

	"loop.example/g01309/impl"
)

// TestP9ScriptsByTheirOutputs carries out each script at once, and line by line.
func TestP9ScriptsByTheirOutputs(t *testing.T) {
	for _, c := range deskCases {
		script, want := strings.ReplaceAll(c.script, "|", "\n"), strings.ReplaceAll(c.outputs, "|", "\n")
		last, outputs, ok := impl.RunDesk(impl.NewDesk(), script)
		wantBool(t, "RunDesk", ok, true)
		d := impl.NewDesk()
		together := strings.Split(outputs, "\n")
		wanted := strings.Split(want, "\n")
		for i, line := range strings.Split(strings.TrimSuffix(script, "\n"), "\n") {
			next, output, ok := impl.DeskCommand(d, line)
			wantText(t, "the line "+line, toldText(output, ok), wanted[i])
			wantText(t, "the line "+line+" in a script", together[i], wanted[i])
			d = next
		}
		wantText(t, "all outputs", outputs, want)
		wantText(t, "the last desk", tell(last), tell(d))
	}
}

// TestP9AllLinesAreTried checks that each form of lines is in deskCases, with an
// output that is neither no nor what, and with no where there is such a line.
func TestP9AllLinesAreTried(t *testing.T) {
	outputs := map[string]map[string]bool{}
	for _, c := range deskCases {
		lines := strings.Split(c.script, "|")
		for i, output := range strings.Split(c.outputs, "|") {
			words := strings.Split(lines[i], " ")
			form := words[0] + strings.Repeat(" X", len(words)-1)
			if outputs[form] == nil {
				outputs[form] = map[string]bool{}
			}
			outputs[form][map[string]string{"no": "no", "what": "what"}[output]] = true
		}
	}
	for _, form := range append(partNames(), "rod X", "left X", "right X", "bar X", "faces X", "house X", "step X", "rows X", "rest", "flows",
		"heat", "melted", "warmth", "at X", "where X", "melt X X X", "shine", "loss X", "tick X X X", "settle X X") {
		wantBool(t, "a "+form+" is carried out", outputs[form][""], true)
		// A part of a valid desk always has a text.
		wantBool(t, "a "+form+" is refused", outputs[form]["no"], !slices.Contains(partNames(), form))
		wantBool(t, "a "+form+" is not known", outputs[form]["what"], false)
	}
}

// linesFor returns lines of all forms but those with TEXT, with numbers of all kinds.
func (s *somewhere) linesFor(d impl.Desk) []string {
	number := func() string {
		if strange := strangeNumbers(); s.whole(0, 9) == 0 {
			return digits(strange[s.whole(0, int64(len(strange))-1)])
		}
		return digits(s.number(-10, 30))
	}
	tick := func(most float64) string {
		if s.whole(0, 9) == 0 {
			return number()
		}
		return digits(s.number(0, most))
	}
	most, _ := impl.MostTick(d.Bar)
	return []string{
		"step " + tick(0.2), "rows " + tick(3), "rest", "flows", "heat", "melted", "warmth", "at " + number(), "where " + number(), "shine", "loss " + number(),
		"melt " + number() + " " + number() + " " + tick(1.1*float64(most)), "tick " + number() + " " + number() + " " + tick(0.5), "settle " + number() + " " + number(),
	}
}

// TestP9LinesTellWhatTheFunctionsTell checks all forms of lines at many desks.
func TestP9LinesTellWhatTheFunctionsTell(t *testing.T) {
	r := somewhere(261)
	for most := int64(1); most <= 48; most++ {
		for range 8 {
			d := r.desk(most)
			for i, text := range partTexts(d) {
				wantText(t, partNames()[i], toldDesk(impl.DeskCommand(d, partNames()[i])), toldDesk(d, text, true))
			}
			for _, line := range r.linesFor(d) {
				next, output := carriedOut(d, line)
				wantText(t, "the line "+line, toldDesk(impl.DeskCommand(d, line)), toldDesk(next, output, true))
			}
		}
	}
}

// TestP9PartsBecomeWhatIsRead checks that a part changes, and no other one.
func TestP9PartsBecomeWhatIsRead(t *testing.T) {
	r := somewhere(262)
	for range 200 {
		d, other := r.desk(6), r.desk(6)
		lines := deskLines(other)
		for i, change := range []func(d *impl.Desk){
			func(d *impl.Desk) { d.Rod = other.Rod }, func(d *impl.Desk) { d.Left = other.Left }, func(d *impl.Desk) { d.Right = other.Right },
			func(d *impl.Desk) { d.Bar = other.Bar }, func(d *impl.Desk) { d.Faces = other.Faces }, func(d *impl.Desk) { d.House = other.House },
		} {
			want := d
			change(&want)
			wantText(t, lines[i], toldDesk(impl.DeskCommand(d, lines[i])), toldDesk(want, "ok", true))
		}
		wantText(t, "all parts", toldDesk(impl.RunDesk(d, scriptOf(lines...))), toldDesk(other, strings.Repeat("ok\n", 6), true))
	}
}

// refusedLines are lines that each have a form, and that are refused at any desk.
func refusedLines() []string {
	lines := []string{"step bf800000", "step 7f800000", "rows 00000000", "rows 80000000", "rows bf800000", "rows 7fc00000", "at ff800000", "where 7f800000",
		"melt 3f800000 3f800000 00000000", "melt 3f800000 3f800000 7f7fffff", "melt 7f800000 3f800000 00000001", "melt 3f800000 7f800000 00000001",
		"tick 3f800000 3f800000 bf800000", "tick 7f800000 3f800000 00000000", "tick 3f800000 7f800000 00000000", "settle 7f800000 3f800000", "settle 3f800000 7fc00000", "loss 7f800000"}
	for _, name := range partNames() {
		lines = append(lines, name+" ", name+" none", name+" 3f800000")
	}
	for _, bad := range []string{"", "none", "0", "1.5", "3F800000", "3f80000", "3f8000000", "3f800000,3f800000", "3f800000,", "7f800001", "7fc00000", "+3f80000", "3f800000\n", "3f80000é", "\x00", "\t3f80000"} {
		for _, name := range []string{"step", "rows", "at", "where", "loss"} {
			lines = append(lines, name+" "+bad)
		}
		for place := range 3 {
			words := []string{"3a000000", "3a000000", "3a000000"}
			words[place] = bad
			lines = append(lines, "melt "+strings.Join(words, " "), "tick "+strings.Join(words, " "))
			if place < 2 {
				lines = append(lines, "settle "+strings.Join(words[:2], " "))
			}
		}
	}
	return lines
}

// unknownLines are lines of no form.
func unknownLines() []string {
	lines := []string{"", " ", "  ", "\n", "\x00", "é", "ok", "no", "what", "none", "rest ", " rest", "rest now", "rods", "ro", "Rod", "ROD", "rod\t", "rod\n", "rod\r", "rod\x00",
		"step", "rows", "at", "where", "loss", "settle", "melt", "tick", "step 3e800000 ", "step  3e800000", " step 3e800000", "step 3e800000 3e800000", "step\t3e800000", "step\n3e800000",
		"settle 3f800000", "settle 3f800000 3f800000 3f800000", "settle 3f800000  3f800000", "melt 3f800000 3f800000", "melt 3f800000 3f800000 3a000000 3a000000", "melt  3f800000 3f800000 3a000000",
		"tick 3f800000 3f800000", "tick 3f800000 3f800000 3a000000 ", "house none none", "nothing", "journal", strings.Repeat(" ", 100000), strings.Repeat("a", 100000)}
	for _, name := range []string{"rest", "flows", "heat", "melted", "warmth", "shine"} {
		lines = append(lines, name+" ", name+" 3f800000", name+"s", name[:len(name)-1], strings.ToUpper(name))
	}
	return lines
}

// TestP9LinesThatChangeNothing checks lines that are refused or not known, and those that only tell.
func TestP9LinesThatChangeNothing(t *testing.T) {
	r := somewhere(263)
	for range 20 {
		d := r.desk(5)
		for _, line := range refusedLines() {
			wantText(t, "the line "+line, toldDesk(impl.DeskCommand(d, line)), toldDesk(d, "no", true))
		}
		for _, line := range unknownLines() {
			wantText(t, "the line "+line, toldDesk(impl.DeskCommand(d, line)), toldDesk(d, "what", true))
		}
		for _, line := range append(partNames(), "flows", "heat", "melted", "warmth", "shine", "at 3f800000", "where 3f800000", "loss 3f800000") {
			next, _, ok := impl.DeskCommand(d, line)
			wantText(t, "the line "+line, tell(next, ok), tell(d, true))
		}
	}
	// A tick of 0 leaves all as it is, but it is carried out.
	d := impl.NewDesk()
	for _, line := range []string{"step 00000000", "tick 3f800000 3f800000 00000000"} {
		wantText(t, "the line "+line, toldDesk(impl.DeskCommand(d, line)), toldDesk(d, "ok", true))
	}
}

// TestP9FunctionsThatFail checks lines that are refused because of how the desk is.
func TestP9FunctionsThatFail(t *testing.T) {
	const most = greatest
	hot := func(change func(d *impl.Desk)) impl.Desk {
		d := impl.NewDesk()
		change(&d)
		wantBool(t, "ValidDesk", impl.ValidDesk(d), true)
		return d
	}
	steep := hot(func(d *impl.Desk) { d.Rod.Warms = []float32{num(most), -num(most)} })
	ends := hot(func(d *impl.Desk) { d.Left, d.Right = held(num(most)), held(-num(most)) })
	long := hot(func(d *impl.Desk) {
		d.Rod.Wides = []float32{num(most), num(most)}
		d.Rod.Warms = []float32{0.5, 1.5}
	})
	full := hot(func(d *impl.Desk) {
		d.Rod.Warms = []float32{num(most), num(most)}
		d.Left, d.Right = shut(), shut()
	})
	leaky := hot(func(d *impl.Desk) { d.House.Leaks = []float32{num(most), num(most)} })
	dense := hot(func(d *impl.Desk) { d.House.Holds = []float32{num(most), num(most)} })
	tight := hot(func(d *impl.Desk) { d.House.Leaks = []float32{0, 0} })
	molten := hot(func(d *impl.Desk) { d.Bar.Step, d.Bar.Heats = num(most), []float32{9, 9} })
	single := hot(func(d *impl.Desk) { d.Faces = d.Faces[:1] })
	bright := hot(func(d *impl.Desk) { d.Faces[0].Warm = num(most) })
	for _, c := range []struct {
		d    impl.Desk
		line string
	}{
		{steep, "flows"}, {steep, "step 3e800000"}, {steep, "rows 3e800000"}, {ends, "rest"}, {long, "at 3f800000"}, {long, "where 3f800000"}, {long, "heat"},
		{full, "heat"}, {full, "rest"}, {impl.NewDesk(), "where 40a00000"}, {leaky, "loss 00000000"}, {leaky, "tick 00000000 00000000 3f800000"}, {leaky, "settle 00000000 41200000"},
		{dense, "warmth"}, {tight, "settle 00000000 00000000"}, {molten, "melted"}, {molten, "melt 00000000 00000000 3e800000"}, {single, "shine"}, {bright, "shine"},
	} {
		wantText(t, "the line "+c.line+" at "+tell(c.d), toldDesk(impl.DeskCommand(c.d, c.line)), toldDesk(c.d, "no", true))
		wantText(t, "the script "+c.line+" at "+tell(c.d), toldDesk(impl.RunDesk(c.d, c.line+"\n"+c.line+"\n")), toldDesk(c.d, "no\nno\n", true))
	}
}

func TestP9InvalidDesksHaveNoLines(t *testing.T) {
	journal := journalByHand("heat", "rest")
	for _, d := range invalidDesks() {
		for _, line := range []string{"rest", "rod", "what", "", "step"} {
			wantText(t, "DeskCommand at "+tell(d), toldDesk(impl.DeskCommand(d, line)), toldDesk(impl.Desk{}, "", false))
		}
		for _, script := range []string{"", "heat\n", "\n"} {
			wantText(t, "RunDesk at "+tell(d), toldDesk(impl.RunDesk(d, script)), toldDesk(impl.Desk{}, "", false))
		}
		for _, text := range []string{"", journal, "x"} {
			last, count, ok := impl.RunJournal(d, text)
			wantText(t, "RunJournal at "+tell(d), tell(last, count, ok), tell(impl.Desk{}, int64(0), false))
		}
	}
}

func TestP9Scripts(t *testing.T) {
	r := somewhere(264)
	d := r.desk(3)
	for _, c := range []struct{ script, outputs string }{
		{"", ""}, {"\n", "what\n"}, {"\n\n", "what\nwhat\n"}, {" \n", "what\n"}, {"rod none\n", "no\n"}, {"rod none\n\nrod none\n", "no\nwhat\nno\n"}, {"left\r\n", "what\n"},
		{strings.Repeat("\n", 16000), strings.Repeat("what\n", 16000)}, {strings.Repeat("a", 15999) + "\n", "what\n"}, {"rod " + strings.Repeat(" ", 15995) + "\n", "what\n"},
		{"faces\n", textOfFaces(d.Faces) + "\n"}, {"faces\nfaces\n", textOfFaces(d.Faces) + "\n" + textOfFaces(d.Faces) + "\n"},
	} {
		wantText(t, "RunDesk of a script of "+whole(int64(len(c.script)))+" bytes", toldDesk(impl.RunDesk(d, c.script)), toldDesk(d, c.outputs, true))
	}
	for _, script := range []string{"a", "rod", "rod\nrod", "\na", "\n ", "rod\n\r", strings.Repeat("\n", 16001), strings.Repeat("a", 16000), strings.Repeat("a", 16000) + "\n", strings.Repeat("rod\n", 4000) + "\n", strings.Repeat("rod\n", 4000)[:15999]} {
		wantText(t, "RunDesk of a script of "+whole(int64(len(script)))+" bytes", toldDesk(impl.RunDesk(d, script)), toldDesk(impl.Desk{}, "", false))
	}
	// A script may have more outputs than bytes.
	most := impl.NewDesk()
	most.Rod = r.rod(48)
	_, outputs, ok := impl.RunDesk(most, strings.Repeat("rod\n", 4000))
	wantBool(t, "RunDesk with many outputs", ok && outputs == strings.Repeat(textOfRod(most.Rod)+"\n", 4000), true)
}

// TestP9LinesFollowOneAnother checks that each line is carried out at the desk behind the one before.
func TestP9LinesFollowOneAnother(t *testing.T) {
	r := somewhere(265)
	for range 60 {
		begin := r.desk(5)
		d, script, outputs := begin, "", ""
		for range 30 {
			lines := append(r.linesFor(d), unknownLines()[:3]...)
			line := lines[r.whole(0, int64(len(lines))-1)]
			output := "what"
			if strings.Trim(line, " ") != "" {
				d, output = carriedOut(d, line)
			}
			script, outputs = script+line+"\n", outputs+output+"\n"
		}
		wantText(t, "RunDesk", toldDesk(impl.RunDesk(begin, script)), toldDesk(d, outputs, true))
	}
}

func TestP9CountOutputs(t *testing.T) {
	for _, c := range []struct {
		text      string
		bad, good int64
	}{
		{"", 0, 0}, {"no\n", 1, 0}, {"what\n", 1, 0}, {"ok\n", 0, 1}, {"\n", 0, 1}, {"\n\n", 0, 2}, {"3f800000\n", 0, 1}, {"no\nwhat\nok\nno\n00000000\n", 3, 2},
		{"no \n", 0, 1}, {" no\n", 0, 1}, {"No\n", 0, 1}, {"NO\n", 0, 1}, {"no\r\n", 0, 1}, {"nowhat\n", 0, 1}, {"no,what\n", 0, 1}, {"n\no\n", 0, 2}, {"none\n", 0, 1}, {"whatever\n", 0, 1}, {"wha\n", 0, 1}, {"no\x00\n", 0, 1},
		{strings.Repeat("\n", 16000), 0, 16000}, {strings.Repeat("what\n", 3200), 3200, 0}, {strings.Repeat("a", 15999) + "\n", 0, 1}, {"\xff\xfe\n", 0, 1}, {"é\n", 0, 1},
	} {
		wantText(t, "CountOutputs of "+c.text, toldWholePair(impl.CountOutputs(c.text)), whole(c.bad)+" "+whole(c.good))
	}
	for _, text := range []string{"no", "ok", " ", "no\nno", "\nwhat", "no\n\r", strings.Repeat("\n", 16001), strings.Repeat("no\n", 5334), strings.Repeat("a", 16000) + "\n", strings.Repeat("no\n", 5333) + "n"} {
		bad, good, ok := impl.CountOutputs(text)
		wantText(t, "CountOutputs of what is none", tell(bad, good, ok), tell(int64(0), int64(0), false))
	}
	// What RunDesk returns is counted as it is.
	for _, c := range deskCases {
		_, outputs, _ := impl.RunDesk(impl.NewDesk(), strings.ReplaceAll(c.script, "|", "\n"))
		lines := strings.Split(c.outputs, "|")
		lines = lines[:len(lines)-1]
		bad := len(slices.DeleteFunc(slices.Clone(lines), func(x string) bool { return x != "no" && x != "what" }))
		wantText(t, "CountOutputs", toldWholePair(impl.CountOutputs(outputs)), whole(int64(bad))+" "+whole(int64(len(lines)-bad)))
	}
}
