package tests

import (
	"fmt"
	"slices"
	"strings"
	"testing"

	"loop.example/g01157/impl"
)

func TestJournalsOfToldLines(t *testing.T) {
	for _, c := range []struct {
		journal string
		lines   []string
	}{
		{"", nil},
		{"0 \n", []string{""}},
		{"0 \n0 \n0 \n", []string{"", "", ""}},
		{"114 a\n", []string{"a"}},
		{"114 a\n114 \n", []string{"a", ""}},
		{"0 \n114 a\n", []string{"", "a"}},
		{"114 a\n59737 b\n", []string{"a", "b"}},
		{"59737 ab\n", []string{"ab"}},
		{"49  \n", []string{" "}},
		{"17 \x00\n", []string{"\x00"}},
		{"272 \xff\n", []string{"\xff"}},
		{"30 \r\n", []string{"\r"}},
	} {
		journal, ok := impl.JournalOf(c.lines)
		wantOk(t, fmt.Sprintf("JournalOf %q", c.lines), journal, ok, c.journal)
		wantRecovered(t, fmt.Sprintf("%q", c.journal), c.journal, c.lines...)
		wantJournal(t, fmt.Sprintf("%q by the rule", c.lines), c.lines...)
	}
	journal, ok := impl.JournalOf([]string{})
	wantOk(t, "JournalOf an empty list", journal, ok, "")
}

// someLines has lists of lines with all that a line can have in it.
func (c *chance) someLines() map[string][]string {
	list := map[string][]string{
		"no lines": nil, "empty lines": make([]string, 9), "lines that look as those of journals": {"114 a", "114 a", "0 ", "0", "0 114 a", ""},
		"blanks":              {" ", "  ", " a", "a ", " 1 ", "a b  c"},
		"bytes":               {"\x00", "\xff\xfe", "é", "\r", "\t", "\v\f", "\u2028", "\x00\x00"},
		"lines of a lab":      {"loss", "train 1 1", "params", "first dense 1 1 40000000,3f800000", "no", "what", ""},
		"digits":              {"0", "1", "12", "7 7", "-1", "+1", "00"},
		"one long line":       {strings.Repeat("x", 7000)},
		"many lines":          slices.Repeat([]string{"seed 1"}, 500),
		"lines of one letter": strings.Split("abcdefghijklmnopqrstuvwxyz", ""),
	}
	for i := range 20 {
		var lines []string
		for range c.below(12) {
			lines = append(lines, strings.ReplaceAll(c.anyText(c.below(60)), "\n", " "))
		}
		list["any lines "+impl.Decimal(int64(i))] = lines
	}
	return list
}

func TestJournalsOfSomeLines(t *testing.T) {
	c := chance(840)
	for name, lines := range c.someLines() {
		wantJournal(t, name, lines...)
		for count := range lines {
			wantJournal(t, "the first lines of "+name, lines[:count]...)
		}
	}
}

func TestJournalsOfLinesWithNewlines(t *testing.T) {
	for _, bad := range []string{"\n", "a\nb", "\na", "a\n", "a\n\n", "\r\n", strings.Repeat("x", 100) + "\n"} {
		for _, lines := range [][]string{{bad}, {bad, "a"}, {"a", bad}, {"", bad, ""}, {"a", "b", "c", bad}, {bad, bad}} {
			journal, ok := impl.JournalOf(lines)
			wantFailure(t, fmt.Sprintf("JournalOf %q", lines), journal, ok)
		}
	}
}

// A journal has at most MaxScript bytes, of how many lines ever.
func TestJournalsOfTheMostBytes(t *testing.T) {
	sizes := map[int]bool{}
	want := func(lines ...string) {
		t.Helper()
		size := len(journalByRule(lines...))
		sizes[size] = true
		if size <= impl.MaxScript {
			wantJournal(t, "up to the most bytes", lines...)
			return
		}
		journal, ok := impl.JournalOf(lines)
		wantFailure(t, "JournalOf more bytes", journal, ok)
		got, length, ok := impl.RecoverJournal(journalByRule(lines...))
		wantFailed(t, "RecoverJournal of more bytes", several{got, length}, ok)
	}
	for length := 7985; length <= 8005; length++ {
		want(strings.Repeat("x", length))
		want("loss", strings.Repeat("y", length-10))
		want(append(make([]string, 1000), strings.Repeat("z", length-3000))...)
	}
	for count := 2660; count <= 2670; count++ {
		want(make([]string, count)...)
		want(append(make([]string, count), "a")...)
	}
	wantValue(t, "a journal of MaxScript bytes", sizes[impl.MaxScript], true)
	wantValue(t, "a journal of one byte more", sizes[impl.MaxScript+1], true)
	journal, ok := impl.JournalOf(make([]string, 100000))
	wantFailure(t, "JournalOf many lines", journal, ok)
	journal, ok = impl.JournalOf([]string{strings.Repeat("x", 1000000)})
	wantFailure(t, "JournalOf a long line", journal, ok)
}

func TestRecoveringFromTextsOfTheMostBytes(t *testing.T) {
	for _, lines := range [][]string{nil, {"a"}, {"a", "", "b"}, make([]string, 2666)} {
		journal := journalByRule(lines...)
		for _, filler := range []string{"x", "\n", " ", "0", "\xff"} {
			text := journal + strings.Repeat(filler, impl.MaxScript-len(journal))
			wantRecovered(t, "MaxScript bytes", text, lines...)
			for _, more := range []string{text + filler, text + "0 \n", text + text} {
				got, length, ok := impl.RecoverJournal(more)
				wantFailed(t, "RecoverJournal of more bytes", several{got, length}, ok)
			}
		}
	}
}

// A journal that is cut has the lines that are whole. Long ones are cut at
// each byte at their beginning, and then around the ends of their lines.
func TestRecoveringCutJournals(t *testing.T) {
	c := chance(841)
	for name, lines := range c.someLines() {
		journal := journalByRule(lines...)
		for length := range len(journal) {
			whole := strings.Count(journal[:length], "\n")
			isNear := strings.Contains(journal[max(0, length-3):length+1], "\n")
			if length < 600 || isNear && length < 3000 {
				wantRecovered(t, name+" that is cut", journal[:length], lines[:whole]...)
			}
		}
	}
}

// changeable has a journal with lines of each sort.
func changeable() []string {
	return []string{"loss", "", "train 1 1", " ", "é \xff", "0 ", "a", "first relu 1 1 none", ""}
}

// Where one byte is another one, all lines before it are recovered, and not
// its own one, as 523 has no common divisor with CheckSize, which is prime.
func TestRecoveringChangedJournals(t *testing.T) {
	lines := changeable()
	journal := journalByRule(lines...)
	for at := range len(journal) {
		line := strings.Count(journal[:at], "\n")
		for value := range 256 {
			if journal[at] == byte(value) {
				continue
			}
			changed := journal[:at] + string([]byte{byte(value)}) + journal[at+1:]
			wantRecovered(t, fmt.Sprintf("a journal with the byte %d at %d", value, at), changed, lines[:line]...)
			wantRecoveredByRule(t, "a changed journal", changed)
		}
	}
}

func TestRecoveringJournalsWithOtherChanges(t *testing.T) {
	c := chance(842)
	for name, lines := range c.someLines() {
		journal := journalByRule(lines...)
		for range 60 {
			at := c.below(len(journal) + 1)
			to := min(at+c.below(4), len(journal))
			for _, changed := range []string{
				journal[:at] + journal[to:], journal[:at] + c.anyText(1+c.below(3)) + journal[at:], journal[:at] + "\n" + journal[at:],
				journal[:at] + journal[at:to] + journal[at:], journal[at:] + journal[:at], journal[at:], journal[:at] + " " + journal[to:], journal[:at] + "0" + journal[at:],
			} {
				if len(changed) <= impl.MaxScript {
					wantRecoveredByRule(t, "a change of "+name, changed)
				}
			}
		}
		for a := range min(len(lines), 9) {
			for b := range a {
				exchanged := slices.Clone(lines)
				exchanged[a], exchanged[b] = exchanged[b], exchanged[a]
				texts := strings.SplitAfter(journal, "\n")
				texts[a], texts[b] = texts[b], texts[a]
				wantRecoveredByRule(t, "exchanged lines of "+name, strings.Join(texts, ""))
				wantJournal(t, "the journal of exchanged lines of "+name, exchanged...)
			}
		}
	}
}

// What stands behind a journal is left out, up to the next whole line of it.
func TestRecoveringJournalsWithTextBehind(t *testing.T) {
	c := chance(843)
	for name, lines := range c.someLines() {
		journal := journalByRule(lines...)
		if len(journal) > 7000 {
			continue
		}
		for _, more := range []string{"x", "xx", "\n", "\n\n", " ", " \n", "x\n", "-1 \n", "65003 \n", "113 a\n", "999999 a\n", "none\n", "\x00", "\xff\n", "12", "12 ", "0"} {
			wantRecovered(t, name+fmt.Sprintf(" and %q", more), journal+more, lines...)
			wantRecovered(t, fmt.Sprintf("%q and ", more)+name, more+journal)
		}
		for _, next := range []string{"", "a", "loss", " ", "0 "} {
			whole := append(slices.Clone(lines), next)
			longer := journalByRule(whole...)
			wantRecovered(t, name+" and a line more", longer, whole...)
			wantRecovered(t, name+" and a line that is cut", longer[:len(longer)-1], lines...)
			wantRecovered(t, name+" and a line with another number", journal+"7"+longer[len(journal):], lines...)
			wantRecovered(t, name+" and a line with a line before", journal+"\n"+longer[len(journal):], lines...)
			// The last line alone has a number that begins with 0.
			wantRecoveredByRule(t, name+" and a journal of its own", journal+journalByRule(next))
		}
	}
}

// The check number of a line is in decimal, as chapter 1 has it.
func TestRecoveringJournalsWithOtherNumbers(t *testing.T) {
	lines := []string{"a", "", "loss", "b"}
	texts := strings.SplitAfter(journalByRule(lines...), "\n")
	for at, text := range texts[:len(lines)] {
		digits, line, _ := strings.Cut(text, " ")
		number, _ := impl.ReadDecimal(digits)
		for _, other := range []string{
			"0" + digits, "00" + digits, "000000000000000000000" + digits, "+" + digits, "-" + digits, " " + digits, digits + "0", "\t" + digits, digits + "\t", digits + ".0", digits + "e0", "0x" + fmt.Sprintf("%x", number),
			"", "-", "none", "x", digits[1:], digits[:len(digits)-1], impl.Decimal(number + 1), impl.Decimal(number - 1), impl.Decimal(number + impl.CheckSize), impl.Decimal(number - impl.CheckSize),
			impl.Decimal(number + 1<<32), "18446744073709551616", fmt.Sprintf("%d", uint64(number)+1<<63), strings.Repeat("9", 400), strings.Repeat("0", 400) + digits, digits + ",", digits + digits,
		} {
			changed := slices.Clone(texts)
			changed[at] = other + " " + line
			wantRecovered(t, fmt.Sprintf("the number %.30q", other), strings.Join(changed, ""), lines[:at]...)
		}
		changed := slices.Clone(texts)
		for _, other := range []string{digits + line, digits + "  " + line, digits + "\t" + line, digits + "\n" + line, digits + " \n" + line, digits + "\n", line, digits + " " + strings.TrimSuffix(line, "\n") + " \n", digits + " " + strings.TrimSuffix(line, "\n") + "\r\n"} {
			changed[at] = other
			wantRecoveredByRule(t, fmt.Sprintf("the line %.30q", other), strings.Join(changed, ""))
		}
	}
	zero := journalByRule("")
	for _, other := range []string{"00 \n", "-0 \n", "+0 \n", " \n", "0\n", "0", "0 ", " 0 \n", "65003 \n", "-65003 \n"} {
		wantRecovered(t, fmt.Sprintf("the number of an empty line, %q", other), other)
		wantRecovered(t, fmt.Sprintf("the number of an empty line behind one, %q", other), zero+other, "")
	}
}

func TestRecoveringTextsThatAreNoJournals(t *testing.T) {
	c := chance(844)
	for _, text := range []string{"", " ", "\n", "\n\n", " \n", "  \n", "a\n", "a a\n", "113 a\n", "115 a\n", "loss\n", "what", "\x00", "\xff\xff\n", strings.Repeat("\n", 8000), strings.Repeat(" ", 8000), strings.Repeat("9", 8000)} {
		wantRecovered(t, fmt.Sprintf("the text %.20q", text), text)
	}
	for length := range 300 {
		wantRecoveredByRule(t, "any bytes", c.anyText(length))
		wantRecoveredByRule(t, "any bytes behind a journal", journalByRule("a", "b")+c.anyText(length))
		wantRecoveredByRule(t, "any bytes with newlines", strings.ReplaceAll(c.anyText(length), "a", "\n"))
	}
}

// Scripts that have been written into a journal are carried out as far as
// they are recovered.
func TestJournalsOfScripts(t *testing.T) {
	lines := []string{"data 1 1 3f800000 3f800000", "train 1 3", "round", "loss", "seed 9", "train 1 1", "params", "fly", ""}
	journal, ok := impl.JournalOf(lines)
	wantOk(t, "the journal of a script", journal, ok, journalByRule(lines...))
	for length := range len(journal) + 1 {
		recovered, _, ok := impl.RecoverJournal(journal[:length])
		wantValue(t, "RecoverJournal: success", ok, true)
		wantScript(t, "a script that is recovered", newLab(), recovered...)
		wantListOk(t, "its lines", recovered, true, lines[:len(recovered)])
	}
}
