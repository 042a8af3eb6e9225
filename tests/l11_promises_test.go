package tests

import (
	"fmt"
	"slices"
	"strings"
	"testing"

	"loop.example/g01157/impl"
)

func TestExamplesOfChapter11(t *testing.T) {
	b := impl.NewLab()
	_, output, ok := impl.LabCommand(b, "loss")
	wantOk(t, "the loss of a new lab", output, ok, "00000000")
	b, output, ok = impl.LabCommand(b, "first dense 1 1 40000000,3f800000")
	wantOk(t, "a first layer", output, ok, "ok")
	_, output, ok = impl.LabCommand(b, "run 40400000")
	wantOk(t, "run 3", output, ok, "40e00000")
	wantNumber(t, "what this is", of(0x40e00000), 7)
	_, output, ok = impl.LabCommand(b, "plan")
	wantOk(t, "its plan", output, ok, "dense1>1")
}

// said has the outputs of lines that show all of a lab, at least as far as
// lines can.
func said(t *testing.T, b impl.Lab) []string {
	t.Helper()
	var outputs []string
	in := int(b.State.Model.Layers[0].In)
	for _, line := range []string{"loss", "right", "params", "plan", "steps", "run " + textByRule(filled(in, 0.75)...), "run " + textByRule(filled(in, -3)...)} {
		_, output, ok := impl.LabCommand(b, line)
		wantValue(t, line+": success", ok, true)
		outputs = append(outputs, output)
	}
	return outputs
}

// joined has the losses of two parts as those of one training.
func joined(first, second string) string {
	switch {
	case first == "none":
		return second
	case second == "none":
		return first
	}
	return first + "," + second
}

// wantTwoParts requires a lab that trains in two parts to be the one that
// trains at once, also with lines in between that show something, that are
// refused or that are none.
func wantTwoParts(t *testing.T, what string, b impl.Lab, batch, first, second int64, between ...string) {
	t.Helper()
	line := func(steps int64) string { return fmt.Sprintf("train %d %d", batch, steps) }
	whole, losses, ok := impl.LabCommand(b, line(first+second))
	wantValue(t, what+" at once: success", ok, true)
	wantValue(t, what+" at once is done", losses != "no" && losses != "what", true)
	part, one, _ := impl.LabCommand(b, line(first))
	for _, other := range between {
		part, _, _ = impl.LabCommand(part, other)
	}
	got, two, ok := impl.LabCommand(part, line(second))
	wantOk(t, what+" in two parts: losses", joined(one, two), ok, losses)
	wantValue(t, what+" in two parts is the same", impl.SameTraining(got.State, whole.State), true)
	wantLab(t, what+" in two parts", got, whole)
	wantListOk(t, what+" in two parts: outputs", said(t, got), true, said(t, whole))
	script := slices.Concat([]string{line(first)}, between, []string{line(second)})
	after, outputs, ok := impl.RunLab(b, scriptOf(script...))
	wantLab(t, what+" in a script", after, whole)
	wantValue(t, what+" in a script: the first losses", ok && strings.HasPrefix(outputs, one+"\n"), true)
	wantValue(t, what+" in a script: the last losses", strings.HasSuffix("\n"+outputs, "\n"+two+"\n"), true)
	state, list, ok := impl.TrainSome(b.Optimizer, b.Data, batch, b.State, first+second)
	wantStateOk(t, what+" without a lab", whole.State, ok, state)
	wantValue(t, what+" without a lab: losses", losses, textByRule(list...))
}

func TestLabsTrainInTwoParts(t *testing.T) {
	c := chance(850)
	for name, a := range c.trainings() {
		b := trainingLab(a)
		first := int64(c.below(6))
		wantTwoParts(t, name, b, a.batch, first, int64(c.below(6)))
		wantTwoParts(t, name+" from no steps", b, a.batch, 0, first)
		wantTwoParts(t, name+" with no steps behind", b, a.batch, first, 0)
		wantTwoParts(t, name+" with lines between", b, a.batch, first, 2, "loss", "seed -1", "", "train 0 1", "run none", "params", "fly", "layer cube 1 none")
	}
	for _, kind := range allStepKinds() {
		for first := int64(0); first <= impl.MaxOnce; first++ {
			wantTwoParts(t, "a told training", trainingLab(toldTraining(kind)), 2, first, impl.MaxOnce-first, "steps")
		}
	}
}

// trainedBy returns the lab behind a script, the losses of all its lines that
// train, and its last output.
func trainedBy(t *testing.T, lines ...string) (b impl.Lab, losses, last string) {
	t.Helper()
	b, outputs, ok := impl.RunLab(newLab(), scriptOf(lines...))
	wantValue(t, "a script that trains: success", ok, true)
	losses = "none"
	for i, output := range strings.Split(strings.TrimSuffix(outputs, "\n"), "\n") {
		if strings.HasPrefix(lines[i], "train") {
			losses = joined(losses, output)
		}
		last = output
	}
	return b, losses, last
}

// A lab that has been made by the lines of a script trains in parts, too, and
// so does one whose data have been exchanged and put back.
func TestScriptsTrainInParts(t *testing.T) {
	c := chance(851)
	for _, name := range stepNames() {
		data := "data 2 1 " + textByRule(c.smallList(10)...) + " " + textByRule(c.smallList(5)...)
		start := []string{
			"first dense 2 3 " + textByRule(c.smallList(9)...), "layer relu 3 none", "layer scale 3 " + textByRule(c.smallList(3)...), "layer dense 1 " + textByRule(c.smallList(4)...),
			"optimizer " + name + " 3c23d70a 3f666666 3f7fbe77 322bcc77", "seed 77", data,
		}
		wantScript(t, "a lab made by lines", newLab(), append(start, "train 2 9", "loss", "right", "params", "steps", "plan")...)
		want, losses, params := trainedBy(t, append(start, "train 2 40", "params")...)
		for _, parts := range [][]string{
			{"train 2 20", "train 2 20"}, {"train 2 0", "train 2 40"}, {"train 2 1", "train 2 0", "train 2 39"}, {"train 2 33", "what", "train 2 7"}, {"train 2 13", "data 1 1 00000000 00000000", data, "train 2 27"},
			slices.Repeat([]string{"train 2 1"}, 40), slices.Repeat([]string{"train 2 5", "loss", "layer relu 9 none"}, 8),
		} {
			got, others, last := trainedBy(t, slices.Concat(start, parts, []string{"params"})...)
			wantLab(t, "a script in parts", got, want)
			wantValue(t, "the losses of a script in parts", others, losses)
			wantValue(t, "the parameters of a script in parts", last, params)
		}
	}
}

// consoleArguments are what the functions of chapter 11 take.
type consoleArguments struct {
	lab          impl.Lab
	line, script string
	lines        []string
	text         string
}

type consoleCall func(a consoleArguments) (several, bool)

// consoleCalls has the functions of chapter 11.
func consoleCalls() map[string]consoleCall {
	return map[string]consoleCall{
		"NewLab":     func(a consoleArguments) (several, bool) { return several{impl.NewLab()}, true },
		"ValidLab":   func(a consoleArguments) (several, bool) { return several{impl.ValidLab(a.lab)}, true },
		"LabCommand": func(a consoleArguments) (several, bool) { return pair(impl.LabCommand(a.lab, a.line)) },
		"RunLab":     func(a consoleArguments) (several, bool) { return pair(impl.RunLab(a.lab, a.script)) },
		"JournalOf": func(a consoleArguments) (several, bool) {
			list, ok := first(impl.JournalOf(a.lines))
			return several{list}, ok
		},
		"RecoverJournal": func(a consoleArguments) (several, bool) { return pair(impl.RecoverJournal(a.text)) },
	}
}

// roomyConsole returns a copy of a with unused capacity everywhere.
func roomyConsole(a consoleArguments) consoleArguments {
	a.lab = roomyLab(a.lab)
	lines := append(slices.Clone(a.lines), "unused", "capacity\n")
	a.lines = lines[:len(a.lines)]
	return a
}

// rawConsole shows all of a, with its unused capacity.
func rawConsole(a consoleArguments) string {
	return rawLab(a.lab) + textOfResult(a.lines[:cap(a.lines)])
}

// toldLines has a line of each form, one that is none and one that is
// refused; with 20 parameters, there is room for one more layer.
func toldLines() []string {
	return []string{
		"first dense 1 2 3f800000,40000000,3f000000,7fc00000", "layer norm 2 3f800000,40000000,3f000000,7fc00000", "layer scale 2 40000000,80000000", "layer relu 2 none",
		"optimizer plain 3f000000 00000000 00000000 00000000", "optimizer mean 3f000000 3f000000 3f000000 3f000000", "optimizer adam 3f000000 3f000000 3f000000 3f000000", "seed 5", "data 2 2 00000000,3f800000 3f800000,40000000",
		"train 2 3", "train 1 0", "loss", "right", "run 3f800000,40000000", "params", "plan", "round", "steps", "", "fly", "seed -1", "data 1 1 none none",
	}
}

// someConsoles has arguments with which the functions succeed, and others.
func (c *chance) someConsoles() map[string]consoleArguments {
	list := map[string]consoleArguments{}
	lines := append(toldLines(), "")
	told := consoleArguments{script: scriptOf(toldLines()...), lines: lines, text: journalByRule(lines...)}
	add := func(name string, b impl.Lab) {
		for i, line := range append(toldLines(), c.lineFor(newLab()), c.mangled("train 1 2")) {
			a := told
			a.lab, a.line = b, line
			if i > 0 {
				a.script, a.text = scriptOf(line, "loss", line), a.text[:i*9]
			}
			list[name+" and "+impl.Decimal(int64(i))] = a
		}
	}
	for name, b := range c.labs() {
		add(name, b)
	}
	for name, b := range brokenLabs() {
		other := told
		other.lab, other.line = b, "loss"
		list["broken: "+name] = other
	}
	shared := c.smallList(8)
	scale := layer(impl.LayerScale, 2, 2, shared[:2], nil)
	same := model(scale, dense(2, 2, shared[:4], shared[2:4]), scale)
	for kind := range stepNames() {
		slots := slotsOf(int64(kind), func() []float32 { return append(slices.Clone(shared), 1, 2)[:10] })
		if len(slots) == 2 {
			slots[1] = slots[0]
		}
		data := tensor(4, 2, shared...)
		add("one list in several places, "+impl.Decimal(int64(kind)), lab(optimizer(int64(kind), 0.5, 0.5, 0.5, 0.5), examples(data, data), state(same, slots, 3, 4, 5)))
	}
	return list
}

func TestArgumentsOfLabsAreNotChanged(t *testing.T) {
	c := chance(852)
	for name, tight := range c.someConsoles() {
		arguments := roomyConsole(tight)
		before, beforeTight := rawConsole(arguments), rawConsole(tight)
		for function, call := range consoleCalls() {
			checkCall(t, function+" of "+name, func() (several, bool) { return call(arguments) })
			checkCall(t, function+" of "+name, func() (several, bool) { return call(tight) })
			got, ok := call(arguments)
			want, wantOk := call(tight)
			wantValue(t, function+" with unused capacity of "+name, textOfResult(got, ok), textOfResult(want, wantOk))
		}
		wantValue(t, "the arguments of "+name, rawConsole(arguments), before)
		wantValue(t, "the arguments without capacity of "+name, rawConsole(tight), beforeTight)
	}
}

func TestSlicesOfLabsAreApart(t *testing.T) {
	c := chance(853)
	for name, arguments := range c.someConsoles() {
		a := roomyConsole(arguments)
		for range 2 {
			behind, _, _ := impl.LabCommand(a.lab, a.line)
			run, _, _ := impl.RunLab(a.lab, a.script)
			none, _, _ := impl.RunLab(a.lab, "")
			wantResultsApart(t, "results of "+name, append(listsOfLab(behind), listsOfLab(run)...), listsOfLab(a.lab))
			wantResultsApart(t, "no lines of "+name, listsOfLab(none), listsOfLab(a.lab))
			// Without unused capacity, a result could be a part of an argument.
			a = arguments
		}
	}
	wantApart(t, "new labs", append(listsOfLab(impl.NewLab()), listsOfLab(impl.NewLab())...))
}

// The lists of layers, slots and lines are new ones too.
func TestListsOfLabsAreApart(t *testing.T) {
	c := chance(854)
	for name, a := range c.someConsoles() {
		before := rawConsole(a)
		for _, run := range []func() (impl.Lab, string, bool){
			func() (impl.Lab, string, bool) { return impl.LabCommand(a.lab, a.line) },
			func() (impl.Lab, string, bool) { return impl.RunLab(a.lab, a.script) },
			func() (impl.Lab, string, bool) { return impl.RunLab(a.lab, "") },
			func() (impl.Lab, string, bool) { return impl.NewLab(), "", true },
		} {
			made, _, _ := run()
			again, _, _ := run()
			want := textOfResult(again)
			clear(made.State.Model.Layers[:cap(made.State.Model.Layers)])
			clear(made.State.Slots[:cap(made.State.Slots)])
			wantValue(t, "the other lab of "+name, textOfResult(again), want)
			wantValue(t, "the arguments of "+name, rawConsole(a), before)
		}
		lines, _, _ := impl.RecoverJournal(a.text)
		others, _, _ := impl.RecoverJournal(a.text)
		want := textOfResult(others)
		clear(lines[:cap(lines)])
		wantValue(t, "the lines of "+name, textOfResult(others), want)
	}
}

// A lab that a line leaves does not change with the labs behind it.
func TestLabsBehindLinesAreNewOnes(t *testing.T) {
	c := chance(855)
	for name, start := range c.labs() {
		labs, texts := []impl.Lab{start}, []string{textOfResult(start)}
		for _, line := range toldLines() {
			next, _, _ := impl.LabCommand(labs[len(labs)-1], line)
			labs, texts = append(labs, next), append(texts, textOfResult(next))
			for i, b := range labs {
				wantValue(t, name+" before "+line, textOfResult(b), texts[i])
			}
		}
	}
}

// All not-a-numbers are one value, so that their other bits change no result;
// and a nil slice and an empty one are the same.
func TestOtherNotANumbersOfLabsChangeNoResult(t *testing.T) {
	c := chance(856)
	for name, a := range c.someConsoles() {
		for function, call := range consoleCalls() {
			want, wantOk := call(a)
			for _, bits := range []uint32{0xffc00000, 0x7f800001, 0xffffffff} {
				b := roomyConsole(a)
				o := &b.lab.Optimizer
				places := append(numbersIn(&b.lab.State), &o.Rate, &o.Beta1, &o.Beta2, &o.Eps)
				for _, list := range [][]float32{b.lab.Data.Inputs.Data, b.lab.Data.Targets.Data} {
					for i := range list {
						places = append(places, &list[i])
					}
				}
				for _, place := range places {
					if isNan(*place) {
						*place = of(bits)
					}
				}
				got, ok := call(b)
				wantValue(t, function+" with other bits of "+name, textOfResult(got, ok), textOfResult(want, wantOk))
			}
		}
	}
}

func TestNilAndEmptySlicesOfLabsAreTheSame(t *testing.T) {
	withLists := func(empty []float32, slots [][]float32) impl.Lab {
		m := model(layer(impl.LayerRelu, 2, 2, empty, empty), layer(impl.LayerScale, 2, 2, []float32{1, 2}, empty), layer(impl.LayerTanh, 2, 2, empty, empty))
		return lab(optimizer(impl.StepPlain, 0.5, 0, 0, 0), examples(tensor(1, 2, 1, 2), tensor(1, 2, 3, 4)), state(m, slots, 3, 4, 5))
	}
	for _, line := range toldLines() {
		for function, call := range consoleCalls() {
			want, wantOk := call(consoleArguments{lab: withLists(nil, nil), line: line, script: line + "\n"})
			for _, b := range []impl.Lab{withLists([]float32{}, [][]float32{}), withLists([]float32{}, nil), withLists(nil, [][]float32{})} {
				got, ok := call(consoleArguments{lab: b, line: line, script: line + "\n", lines: []string{}})
				wantValue(t, function+" with empty slices", textOfResult(got, ok), textOfResult(want, wantOk))
			}
		}
	}
	for _, slots := range [][][]float32{{nil, nil}, {{}, nil}, {{}, {}}} {
		b := lab(optimizer(impl.StepAdam, 1, 1, 1, 1), newLab().Data, state(model(layer(impl.LayerTanh, 1, 1, nil, nil)), slots, 0, 0, 1))
		wantSpoken(t, b, spoken{"params", "none"}, spoken{"round", "ok"}, spoken{"right", "1"}, spoken{"loss", "no"}, spoken{"train 1 1", "no"})
		b.State.Model = model(layer(impl.LayerRelu, 1, 1, nil, nil))
		wantSpoken(t, b, spoken{"train 1 3", "00000000,00000000,00000000"}, spoken{"steps", "3"}, spoken{"params", "none"})
	}
}

func TestEachFunctionOfLabsReturnsTheSameForAllIntegers(t *testing.T) {
	integers := append(anyIntegers(), 3, 4, 5, 6, 7, 8, 9, 15, 16, 17, 39, 40, 41, 999, 1000, 1001, -2, impl.MaxSeed, impl.MaxSeed+1)
	for _, n := range integers {
		for _, m := range integers {
			fields, kinds, rows, columns := newLab(), newLab(), newLab(), newLab()
			fields.State.Steps, fields.State.Seed = n, m
			kinds.Optimizer.Kind = n
			kinds.State.Model = model(layer(n, m, m, nil, nil))
			rows.Data.Inputs.Rows, rows.Data.Targets.Rows = n, m
			columns.Data.Inputs.Columns, columns.State.Model = n, model(layer(impl.LayerDense, n, m, []float32{1}, []float32{2}))
			for i, line := range []string{"seed %d", "train %d %d", "first relu %d %d none", "layer relu %d none", "data %d %d 00000000 00000000", "first dense %d %d 00000000,00000000"} {
				line = fmt.Sprintf(line, []any{n, m}[:strings.Count(line, "%d")]...)
				wantLine(t, newLab(), line)
				for name, call := range consoleCalls() {
					for k, b := range []impl.Lab{fields, kinds, rows, columns} {
						text := fmt.Sprintf("%d %d\n%d \n", n, m, m)
						a := consoleArguments{lab: b, line: line, script: line + "\n" + line + "\n", lines: []string{text, line}, text: text}
						checkCall(t, fmt.Sprintf("%s %d %d of %d and %d", name, i, k, n, m), func() (several, bool) { return call(a) })
					}
				}
			}
		}
	}
}

func TestEachFunctionOfLabsReturnsTheSameForAllNumbers(t *testing.T) {
	for _, x := range edges() {
		for _, y := range edges() {
			for _, kind := range allStepKinds() {
				slots := slotsOf(kind, func() []float32 { return []float32{x, y} })
				b := lab(optimizer(kind, x, y, y, x), examples(tensor(2, 1, x, y), tensor(2, 1, y, x)), state(model(dense(1, 1, []float32{y}, []float32{x})), slots, 3, 4, y))
				script := scriptOf("loss", "train 1 2", "params", "round", "right", "run "+textByRule(x), "layer scale 1 "+textByRule(y), "plan", "train 2 1", "params", "first scale 1 1 "+textByRule(x), "loss",
					strings.Join([]string{"optimizer", stepNames()[kind], textByRule(y), textByRule(x), textByRule(x), textByRule(y)}, " "), "train 2 2", "params")
				checkCall(t, "RunLab", func() (several, bool) { return pair(impl.RunLab(b, script)) })
				wantScript(t, "any numbers", b, strings.Split(strings.TrimSuffix(script, "\n"), "\n")...)
			}
		}
	}
}

func TestEachFunctionOfLabsReturnsTheSameForAllTexts(t *testing.T) {
	c := chance(857)
	texts := append(anyTexts(), "loss", "loss\n", "run ", "first", strings.Repeat("\n", 8000), strings.Repeat("\n", 8001), strings.Repeat(" ", 8000), strings.Repeat("loss\n", 100000), strings.Repeat("0 \n", 100000), c.anyText(8000), c.anyText(1<<17))
	for _, text := range texts {
		for _, text := range []string{text, "run " + text, "data 1 1 " + text + " " + text, "first " + text + " 1 1 none", "seed " + text, text + "\n", text + " " + text, "\n" + text} {
			for name, call := range consoleCalls() {
				a := consoleArguments{lab: newLab(), line: text, script: text, lines: []string{text, "", text}, text: text}
				checkCall(t, name, func() (several, bool) { return call(a) })
			}
		}
	}
}

func TestEachFunctionOfLabsReturnsTheSameForLongLists(t *testing.T) {
	const length = 100000
	long := filled(length, 1)
	many, wide, deep, broad := newLab(), newLab(), newLab(), newLab()
	many.State.Model = model(slices.Repeat([]impl.Layer{layer(impl.LayerRelu, 1, 1, nil, nil)}, length)...)
	wide.State.Model = model(dense(1, 1, long, long))
	deep.State.Slots = slices.Repeat([][]float32{{1, 2}}, length)
	broad.Data = examples(tensor(1, length, long...), tensor(length, 1, long...))
	for name, call := range consoleCalls() {
		for i, b := range []impl.Lab{many, wide, deep, broad} {
			a := consoleArguments{lab: b, line: "params", script: "params\n", lines: slices.Repeat([]string{"x"}, length), text: strings.Repeat("137 x\n", length)}
			checkCall(t, fmt.Sprintf("%s %d of long lists", name, i), func() (several, bool) { return call(a) })
		}
	}
}
