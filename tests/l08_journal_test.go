package tests

import (
	"slices"
	"strings"
	"testing"

	"loop.example/g01309/impl"
)

// wantJournal checks the journal of lines, and that it is recovered.
func wantJournal(t *testing.T, lines []string) {
	t.Helper()
	want := journalByHand(lines...)
	wantText(t, "JournalOf", toldText(impl.JournalOf(lines)), want)
	wantText(t, "RecoverJournal", toldRecovery(impl.RecoverJournal(want)), toldRecovery(lines, int64(len(want)), true))
}

// TestP9JournalsByHand asserts journals whose check numbers are worked out: that of
// the line a is 97 + 131, and that of the next line b 829 times this, plus 98 + 131,
// less 2 times 65003.
func TestP9JournalsByHand(t *testing.T) {
	for _, c := range []struct {
		lines []string
		want  string
	}{
		{nil, ""}, {[]string{""}, "0 \n"}, {[]string{"", ""}, "0 \n0 \n"}, {[]string{"a"}, "228 a\n"}, {[]string{"a", "b"}, "228 a\n59235 b\n"},
		{[]string{"a", ""}, "228 a\n228 \n"}, {[]string{"", "a"}, "0 \n228 a\n"}, {[]string{" "}, "163  \n"}, {[]string{"\x00"}, "131 \x00\n"}, {[]string{"\xff"}, "386 \xff\n"},
		{[]string{"heat", "rod"}, "43205 heat\n32226 rod\n"},
	} {
		wantText(t, "JournalOf", toldText(impl.JournalOf(c.lines)), c.want)
		wantJournal(t, c.lines)
	}
}

// journalLines are lines of all kinds.
func (s *somewhere) journalLines(count int) []string {
	var lines []string
	for range count {
		line := []byte{}
		for range s.whole(0, 12) {
			line = append(line, byte(s.whole(0, 255)))
		}
		text := strings.ReplaceAll(string(line), "\n", "")
		lines = append(lines, []string{"rest", "step 3e800000", "", " ", "0 ", "no", text}[s.whole(0, 6)])
	}
	return lines
}

func TestP9JournalsAreRecovered(t *testing.T) {
	r := somewhere(271)
	for count := range 60 {
		for range 10 {
			wantJournal(t, r.journalLines(count))
		}
	}
	wantJournal(t, refusedLines()[:10])
	wantJournal(t, slices.Repeat([]string{"rod"}, 300))
}

func TestP9JournalsThatThereAreNot(t *testing.T) {
	for _, bad := range []string{"\n", "rest\n", "\nrest", "re\nst", "0 \n"} {
		for place := range 3 {
			lines := []string{"rest", "rest", "rest"}
			lines[place] = bad
			wantText(t, "JournalOf with a newline", toldText(impl.JournalOf(lines)), "fail")
		}
	}
	// The check number of a line of blanks takes 1 to 5 bytes.
	for count := 15980; count <= 16005; count++ {
		for _, lines := range [][]string{{strings.Repeat(" ", count)}, {"", strings.Repeat("a", count)}, {"a", strings.Repeat(" ", count)}, {strings.Repeat("b", count), ""}} {
			want, fits := journalByHand(lines...), len(journalByHand(lines...)) <= 16000
			wantText(t, "JournalOf a long line", toldText(impl.JournalOf(lines)), orFail(fits, want))
			if !fits {
				wantText(t, "RecoverJournal of a text that is too long", toldRecovery(impl.RecoverJournal(want)), toldRecovery(nil, 0, false))
				continue
			}
			wantJournal(t, lines)
		}
	}
	for count := 5330; count <= 5336; count++ {
		lines := make([]string, count)
		wantText(t, "JournalOf many lines", toldText(impl.JournalOf(lines)), orFail(3*count <= 16000, journalByHand(lines...)))
	}
	wantText(t, "JournalOf very many lines", toldText(impl.JournalOf(make([]string, 1000000))), "fail")
	wantText(t, "JournalOf a very long line", toldText(impl.JournalOf([]string{strings.Repeat("a", 1000000)})), "fail")
}

// TestP9JournalsAreRecoveredAsFarAsTheyAreIntact damages each byte of a journal.
func TestP9JournalsAreRecoveredAsFarAsTheyAreIntact(t *testing.T) {
	r := somewhere(272)
	for range 6 {
		lines := append(r.journalLines(8), "", "settle 40800000 00000000", "0 ")
		journal := journalByHand(lines...)
		var ends []int
		for count := range len(lines) + 1 {
			ends = append(ends, len(journalByHand(lines[:count]...)))
		}
		intact := func(place int) string {
			count := 0
			for ends[count+1] <= place {
				count++
			}
			return toldRecovery(lines[:count], int64(ends[count]), true)
		}
		for place := range len(journal) {
			wantText(t, "a journal that ends too early", toldRecovery(impl.RecoverJournal(journal[:place])), intact(place))
			for _, bit := range []byte{1, 2, 4, 8, 16, 32, 64, 128} {
				damaged := []byte(journal)
				damaged[place] ^= bit
				wantText(t, "a journal with another bit", toldRecovery(impl.RecoverJournal(string(damaged))), intact(place))
			}
		}
		for _, more := range []string{"x", " ", "\n", "0", "0 ", "0 \n", "-1 a\n", "no\n", journal} {
			got, n, ok := impl.RecoverJournal(journal + more)
			want, length := recoveredByHand(journal + more)
			wantText(t, "a journal with more behind it", toldRecovery(got, n, ok), toldRecovery(want, length, true))
		}
	}
}

// TestP9OtherTextsOfJournals checks what is no journal, but nearly one.
func TestP9OtherTextsOfJournals(t *testing.T) {
	for _, text := range []string{
		"", "\n", " \n", "0\n", "0 ", "00 \n", "+0 \n", "-0 \n", " 0 \n", "0  \n", "0x0 \n", "0 \r\n", "0 \n\n", "65003 \n", "228 a", "228  a\n", "228 a \n", "0228 a\n", "228\ta\n", "228 b\n", "a\n", "a 228\n",
		"228 a\n98 b\n", "59235 b\n228 a\n", "163  \n", "163 \n", "59235 b\n", "228 a\n228 a\n", strings.Repeat("0 \n", 5333) + "\n", strings.Repeat("0 \n", 5333), strings.Repeat("\n", 16000), strings.Repeat("9", 16000),
	} {
		lines, length := recoveredByHand(text)
		wantText(t, "RecoverJournal of "+text, toldRecovery(impl.RecoverJournal(text)), toldRecovery(lines, length, true))
	}
	for _, text := range []string{strings.Repeat("0 \n", 5334), strings.Repeat(" ", 16001), journalByHand("rest") + strings.Repeat("x", 16000)} {
		d, count, ran := impl.RunJournal(impl.NewDesk(), text)
		wantText(t, "RecoverJournal of a text that is too long", toldRecovery(impl.RecoverJournal(text)), toldRecovery(nil, 0, false))
		wantText(t, "RunJournal of a text that is too long", tell(d, count, ran), tell(impl.Desk{}, int64(0), false))
	}
	r := somewhere(273)
	for range 3000 {
		text := []byte(journalByHand(r.journalLines(4)...) + journalByHand(r.journalLines(2)...))
		for range r.whole(0, 2) {
			if len(text) > 0 {
				place := r.whole(0, int64(len(text))-1)
				text[place] = []byte{'\n', ' ', '0', byte(r.whole(0, 255))}[r.whole(0, 3)]
			}
		}
		lines, length := recoveredByHand(string(text))
		wantText(t, "RecoverJournal", toldRecovery(impl.RecoverJournal(string(text))), toldRecovery(lines, length, true))
	}
}

// TestP9JournalsAreCarriedOut checks that this is the same as carrying out the lines.
func TestP9JournalsAreCarriedOut(t *testing.T) {
	wantRun := func(d impl.Desk, journal string, lines []string) {
		t.Helper()
		want, _, _ := impl.RunDesk(d, scriptOf(lines...))
		last, count, ok := impl.RunJournal(d, journal)
		wantText(t, "RunJournal", tell(last, count, ok), tell(want, int64(len(lines)), true))
	}
	r := somewhere(274)
	for range 40 {
		d := r.desk(4)
		lines := append(r.linesFor(d), refusedLines()[:5]...)
		lines = append(lines, "nothing", "", "rows 3f800000", "rest")
		for count := range len(lines) + 1 {
			journal := journalByHand(lines[:count]...)
			wantRun(d, journal, lines[:count])
			wantRun(d, journal+"x", lines[:count])
			if count > 0 {
				wantRun(d, journal[:len(journal)-1], lines[:count-1])
				wantRun(d, journal+journal, lines[:count])
			}
		}
	}
	for _, c := range deskCases {
		lines := strings.Split(strings.TrimSuffix(c.script, "|"), "|")
		wantRun(impl.NewDesk(), journalByHand(lines...), lines)
	}
	wantRun(impl.NewDesk(), "", nil)
	wantRun(impl.NewDesk(), strings.Repeat("x", 16000), nil)
}
