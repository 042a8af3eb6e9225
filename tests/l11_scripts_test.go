package tests

import (
	"fmt"
	"slices"
	"strings"
	"testing"

	"loop.example/g01157/impl"
)

func TestScriptsOfToldLines(t *testing.T) {
	want := newLab()
	want.Data = examples(tensor(1, 1, 1), tensor(1, 1, 1))
	wantRunOk(t, "no lines", newLab(), "", newLab(), "")
	wantRunOk(t, "an empty line", newLab(), "\n", newLab(), "what\n")
	wantRunOk(t, "empty lines", newLab(), "\n\n\n", newLab(), "what\nwhat\nwhat\n")
	wantRunOk(t, "one line", newLab(), "loss\n", newLab(), "00000000\n")
	wantRunOk(t, "two lines", newLab(), "loss\nsteps\n", newLab(), "00000000\n0\n")
	wantRunOk(t, "an empty line before one", newLab(), "\nloss\n", newLab(), "what\n00000000\n")
	wantRunOk(t, "an empty line behind one", newLab(), "loss\n\n", newLab(), "00000000\nwhat\n")
	wantRunOk(t, "an empty line between two", newLab(), "loss\n\nright\n", newLab(), "00000000\nwhat\n1\n")
	wantRunOk(t, "another end of a line", newLab(), "loss\r\nsteps\r\n", newLab(), "what\nwhat\n")
	wantRunOk(t, "blanks", newLab(), " \n  \nloss \n", newLab(), "what\nwhat\nwhat\n")
	wantRunOk(t, "bytes that are no text", newLab(), "\xff\n\x00\n\xfe\xff loss\n", newLab(), "what\nwhat\nwhat\n")
	wantRunOk(t, "lines that are refused", newLab(), "seed -1\nrun none\ndata 1 1 3f800000 3f800000\ntrain 0 1\nloss\n", want, "no\nno\nok\nno\n3f800000\n")
	wantRunOk(t, "lines that go on", want, "train 1 1\nsteps\ntrain 1 1\nsteps\nparams\nseed 0\n", want, "3f800000\n1\n3f800000\n2\n00000000,00000000\nok\n")
}

// Words that a refused line has left do not come into the next one.
func TestLinesBehindRefusedOnes(t *testing.T) {
	for _, refused := range []string{
		"first cube 2 2 3f800000", "first dense 0 1 3f800000,3f800000", "first dense x 1 3f800000,3f800000", "layer none 3 40000000", "layer relu 9 none", "optimizer none 40000000 40000000 40000000 40000000",
		"optimizer adam 40000000 none 40000000 40000000", "seed none", "data 2 2 none 40000000", "data 0 2 40000000 40000000", "data x 2 40000000 40000000", "train none 7", "train 40 7", "run 3f800000,40000000", "run ,",
	} {
		for _, line := range []string{
			"first scale 1 1 40400000", "layer scale 1 40400000", "optimizer mean 3f000000 3e800000 3f800000 00000000", "seed 3", "data 1 1 40400000 40800000", "train 1 2", "run 40400000", "steps", "params", "",
		} {
			wantScript(t, "a line behind "+refused, newLab(), refused, line, refused, line, line)
			after, outputs, ok := impl.RunLab(newLab(), scriptOf(refused, line))
			alone, output, _ := impl.LabCommand(newLab(), line)
			wantOk(t, line+" behind "+refused, outputs, ok, "no\n"+output+"\n")
			wantLab(t, line+" behind "+refused, after, alone)
		}
	}
}

func TestScriptsThatAreNone(t *testing.T) {
	for _, script := range []string{"loss", " ", "x", "loss\nloss", "\nloss", "\n ", "loss\n\x00", "loss\n\r", "\r", "seed 1\nseed", "\n\n\n\n.", strings.Repeat("\n", 7999) + "x"} {
		got, outputs, ok := impl.RunLab(newLab(), script)
		wantFailed(t, fmt.Sprintf("RunLab of %.40q", script), several{got, outputs}, ok)
		whole := min(len(script)+1, impl.MaxScript)
		_, _, ok = impl.RunLab(newLab(), script[:whole-1]+"\n")
		wantValue(t, "the same with a newline at its end", ok, true)
	}
}

func TestScriptsOfTheMostBytes(t *testing.T) {
	wantValue(t, "the limit", impl.MaxScript, 8000)
	for _, line := range []string{"", "loss", "x", "steps", "seed 1", "round", "train 1 1", "data 1 1 00000000 00000000", strings.Repeat("a", 7999), strings.Repeat(" ", 3999), "run " + textByRule(filled(256, 1)...)} {
		count := impl.MaxScript / (len(line) + 1)
		lines := slices.Repeat([]string{line}, count)
		// The last line takes what is left.
		if left := impl.MaxScript - count*(len(line)+1); left > 0 {
			lines = append(lines, strings.Repeat("y", left-1))
		}
		wantValue(t, "the most bytes", len(scriptOf(lines...)), impl.MaxScript)
		wantScript(t, "the most bytes", newLab(), lines...)
		wantScript(t, "one byte less", newLab(), lines[1:]...)
		for _, more := range []string{scriptOf(append(lines, "")...), "\n" + scriptOf(lines...), "y" + scriptOf(lines...), strings.Repeat(scriptOf(lines...), 2)} {
			got, outputs, ok := impl.RunLab(newLab(), more)
			wantFailed(t, "RunLab of more bytes", several{got, outputs}, ok)
		}
	}
}

// Any lines one after another, some of which are none.
func TestScriptsOfAnyLines(t *testing.T) {
	c := chance(830)
	for name, start := range c.labs() {
		for range 3 {
			b := start
			var lines []string
			for len(scriptOf(lines...)) < 7000 && len(lines) < 30 {
				line := c.lineFor(b)
				if c.below(4) == 0 {
					line = c.mangled(line)
				}
				for part := range strings.SplitSeq(line, "\n") {
					if len(part) > 900 {
						part = "what"
					}
					lines = append(lines, part)
					b, _ = lineByRule(b, part)
				}
			}
			wantScript(t, "a script at "+name, start, lines...)
		}
	}
}

// A script does what its lines do one by one, and what its parts do one after
// another.
func TestScriptsDoWhatTheirLinesDo(t *testing.T) {
	c := chance(831)
	for name, start := range c.labs() {
		var lines, outputs []string
		parts := []impl.Lab{start}
		for range 12 {
			b := parts[len(parts)-1]
			line := strings.ReplaceAll(c.lineFor(b), "\n", "")
			after, output, ok := impl.LabCommand(b, line)
			wantValue(t, "LabCommand at "+name+": success", ok, true)
			lines, outputs, parts = append(lines, line), append(outputs, output), append(parts, after)
		}
		for from := range len(lines) + 1 {
			for to := from; to <= len(lines); to++ {
				wantRunOk(t, "a part at "+name, parts[from], scriptOf(lines[from:to]...), parts[to], scriptOf(outputs[from:to]...))
			}
		}
	}
}
