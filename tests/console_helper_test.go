package tests

import (
	"fmt"
	"math"
	"math/big"
	"regexp"
	"slices"
	"strconv"
	"strings"
	"testing"

	"loop.example/g01157/impl"
)

func lab(o impl.Optimizer, data impl.Examples, s impl.TrainState) impl.Lab {
	return impl.Lab{Optimizer: o, Data: data, State: s}
}

func numbersOfOptimizer(o impl.Optimizer) []float32 {
	return []float32{o.Rate, o.Beta1, o.Beta2, o.Eps}
}

// newLab is the new lab of the document, made without impl.
func newLab() impl.Lab {
	zero := layer(impl.LayerDense, 1, 1, []float32{0}, []float32{0})
	return lab(optimizer(impl.StepPlain, 0.5, 0, 0, 0), examples(tensor(1, 1, 0), tensor(1, 1, 0)), state(model(zero), nil, 0, 0, 1))
}

func layerNames() []string { return []string{"dense", "relu", "scale", "tanh", "softmax", "norm"} }

func stepNames() []string { return []string{"plain", "momentum", "squares", "mean", "adam"} }

// textByRule has 8 digits for each number.
func textByRule(list ...float32) string {
	if len(list) == 0 {
		return "none"
	}
	var texts []string
	for _, x := range list {
		bits := math.Float32bits(x)
		if isNan(x) {
			bits = 0x7fc00000
		}
		texts = append(texts, fmt.Sprintf("%08x", bits))
	}
	return strings.Join(texts, ",")
}

var (
	decimalForm = regexp.MustCompile(`^(0|-?[1-9][0-9]*)$`)
	numbersForm = regexp.MustCompile(`^[0-9a-f]{8}(,[0-9a-f]{8})*$`)
)

// lineWords has the words of a line, and is broken if one of them is not what
// it must be.
type lineWords struct {
	words  []string
	broken bool
}

func (w *lineWords) require(is bool) bool {
	w.broken = w.broken || !is
	return is
}

func (w *lineWords) decimal(place int) int64 {
	n, _ := new(big.Int).SetString(w.words[place], 10)
	if !w.require(decimalForm.MatchString(w.words[place])) || !w.require(n.CmpAbs(big.NewInt(1e15)) <= 0) {
		return 0
	}
	return n.Int64()
}

func (w *lineWords) list(place int) []float32 {
	text := w.words[place]
	if text == "none" || !w.require(numbersForm.MatchString(text)) {
		return nil
	}
	var list []float32
	for _, digits := range strings.Split(text, ",") {
		bits, _ := strconv.ParseUint(digits, 16, 32)
		x := of(uint32(bits))
		w.require(!isNan(x) || bits == 0x7fc00000)
		list = append(list, x)
	}
	w.require(len(list) <= 256)
	return list
}

func (w *lineWords) number(place int) float32 {
	list := w.list(place)
	if !w.require(len(list) == 1) {
		return 0
	}
	return list[0]
}

func (w *lineWords) kind(place int, names []string) int64 {
	kind := slices.Index(names, w.words[place])
	w.require(kind >= 0)
	return int64(kind)
}

func (w *lineWords) layer(kind, in, out int64, list []float32) impl.Layer {
	if !w.require(1 <= in && in <= 8 && 1 <= out && out <= 8) {
		return impl.Layer{}
	}
	weights, bias := sizesByRule(kind, in, out)
	if !w.require(int64(len(list)) == weights+bias) {
		return impl.Layer{}
	}
	return layer(kind, in, out, list[:weights], list[weights:])
}

func (w *lineWords) data(in, out int64, inputs, targets []float32) impl.Examples {
	if !w.require(in > 0) {
		return impl.Examples{}
	}
	rows := int64(len(inputs)) / in
	return examples(tensor(rows, in, inputs...), tensor(rows, out, targets...))
}

func isTensorByRule(t impl.Tensor) bool {
	return t.Rows >= 1 && t.Rows <= 16 && t.Columns >= 1 && t.Columns <= 16 && int64(len(t.Data)) == t.Rows*t.Columns
}

// isLabByRule is the text of the document.
func isLabByRule(b impl.Lab) bool {
	hasData := isTensorByRule(b.Data.Inputs) && isTensorByRule(b.Data.Targets) && b.Data.Inputs.Rows == b.Data.Targets.Rows
	kind := b.Optimizer.Kind
	return hasData && kind >= 0 && kind <= 4 && isStorableByRule(b.State) &&
		len(b.State.Slots) == slotsByRule(kind) && len(paramsByRule(b.State.Model)) <= 256
}

// fitsByRule reports whether the data of b have as many columns as go into
// its model, and as come out of it.
func fitsByRule(b impl.Lab) bool {
	layers := b.State.Model.Layers
	return b.Data.Inputs.Columns == layers[0].In && b.Data.Targets.Columns == layers[len(layers)-1].Out
}

// hasTapeByRule reports whether the model of b has a tape for its data.
func hasTapeByRule(b impl.Lab) bool {
	isOther := func(l impl.Layer) bool { return l.Kind > impl.LayerScale }
	return fitsByRule(b) && !slices.ContainsFunc(b.State.Model.Layers, isOther)
}

func outputOf(m impl.Model, x []float32) []float32 {
	stages := stagesByRule(m, x)
	return stages[len(stages)-1]
}

// train makes the steps of a line. Without steps, nothing has to fit.
func (w *lineWords) train(b impl.Lab, batch, steps int64) (impl.TrainState, string) {
	isInside := batch >= 1 && batch <= 16 && steps >= 0 && steps <= 40 && b.State.Steps+steps <= 1000
	if !w.require(isInside) || steps == 0 || !w.require(hasTapeByRule(b)) {
		return b.State, "none"
	}
	s, losses := trainArguments{b.Optimizer, b.Data, batch, b.State}.byRule(steps)
	return s, textByRule(losses...)
}

func (w *lineWords) loss(b impl.Lab) string {
	if !w.require(hasTapeByRule(b)) {
		return ""
	}
	return textByRule(lossByRule(b.State.Model, b.Data.Inputs, b.Data.Targets))
}

func (w *lineWords) right(b impl.Lab) string {
	if !w.require(fitsByRule(b)) {
		return ""
	}
	right := 0
	for row := range b.Data.Inputs.Rows {
		made := outputOf(b.State.Model, rowTensor(b.Data.Inputs, row).Data)
		if placeByRule(made) == placeByRule(rowTensor(b.Data.Targets, row).Data) {
			right++
		}
	}
	return strconv.Itoa(right)
}

func (w *lineWords) run(m impl.Model, x []float32) string {
	if !w.require(int64(len(x)) == m.Layers[0].In) {
		return ""
	}
	return textByRule(outputOf(m, x)...)
}

func roundedByRule(m impl.Model) impl.Model {
	list := paramsByRule(m)
	for i, x := range list {
		list[i] = bfloatByDistance(x)
	}
	return withParamsByRule(m, list)
}

// lineByRule is the table of the document, for a valid lab.
func lineByRule(b impl.Lab, line string) (impl.Lab, string) {
	w := &lineWords{words: strings.Split(line, " ")}
	m, after, output, isNew := b.State.Model, b, "ok", false
	switch w.words[0] + strconv.Itoa(len(w.words)-1) {
	case "first4":
		after.State.Model = model(w.layer(w.kind(1, layerNames()), w.decimal(2), w.decimal(3), w.list(4)))
		isNew = true
	case "layer3":
		in := m.Layers[len(m.Layers)-1].Out
		added := w.layer(w.kind(1, layerNames()), in, w.decimal(2), w.list(3))
		after.State.Model = model(append(slices.Clone(m.Layers), added)...)
		isNew = true
	case "optimizer5":
		after.Optimizer = optimizer(w.kind(1, stepNames()), w.number(2), w.number(3), w.number(4), w.number(5))
		isNew = true
	case "seed1":
		after.State.Seed = w.decimal(1)
		isNew = true
	case "data4":
		after.Data = w.data(w.decimal(1), w.decimal(2), w.list(3), w.list(4))
	case "train2":
		after.State, output = w.train(b, w.decimal(1), w.decimal(2))
	case "loss0":
		output = w.loss(b)
	case "right0":
		output = w.right(b)
	case "run1":
		output = w.run(m, w.list(1))
	case "params0":
		output = textByRule(paramsByRule(m)...)
	case "plan0":
		output = planTextByRule(compileByRule(m))
	case "round0":
		after.State.Model = roundedByRule(m)
	case "steps0":
		output = strconv.FormatInt(b.State.Steps, 10)
	default:
		return b, "what"
	}
	if isNew {
		after.State = state(after.State.Model, emptySlots(after.Optimizer.Kind, after.State.Model), 0, after.State.Seed, 1)
	}
	if w.broken || !isLabByRule(after) {
		return b, "no"
	}
	return after, output
}

func wantLab(t *testing.T, what string, got, want impl.Lab) {
	t.Helper()
	wantValue(t, what+": lab", textOfResult(got), textOfResult(want))
}

// wantLine requires LabCommand to do what lineByRule does, and returns what
// it does.
func wantLine(t *testing.T, b impl.Lab, line string) (impl.Lab, string) {
	t.Helper()
	want, wantOutput := lineByRule(b, line)
	got, output, ok := impl.LabCommand(b, line)
	what := fmt.Sprintf("the line %.80q", line)
	wantOk(t, what, output, ok, wantOutput)
	wantLab(t, what, got, want)
	wantValue(t, what+": the lab behind it is valid", impl.ValidLab(got), true)
	return got, output
}

// spoken is a line and its output.
type spoken struct{ line, output string }

// wantSpoken requires lines to have told outputs, one after another, and
// returns the last lab.
func wantSpoken(t *testing.T, b impl.Lab, lines ...spoken) impl.Lab {
	t.Helper()
	for _, s := range lines {
		var output string
		b, output = wantLine(t, b, s.line)
		wantValue(t, fmt.Sprintf("the output of %.80q", s.line), output, s.output)
	}
	return b
}

// wantRefusedLines requires lines to have the output `no`, at which nothing
// changes.
func wantRefusedLines(t *testing.T, b impl.Lab, lines ...string) {
	t.Helper()
	for _, line := range lines {
		after := wantSpoken(t, b, spoken{line, "no"})
		wantLab(t, fmt.Sprintf("behind %.80q, which is refused", line), after, b)
	}
}

// wantUnknownLines requires lines to be none of the table.
func wantUnknownLines(t *testing.T, b impl.Lab, lines ...string) {
	t.Helper()
	for _, line := range lines {
		after := wantSpoken(t, b, spoken{line, "what"})
		wantLab(t, fmt.Sprintf("behind %.80q, which is none", line), after, b)
	}
}

// scriptOf has the lines of a script.
func scriptOf(lines ...string) string {
	script := ""
	for _, line := range lines {
		script += line + "\n"
	}
	return script
}

// runByLines has what the lines of a script do by the rule.
func runByLines(b impl.Lab, lines ...string) (impl.Lab, string) {
	outputs := ""
	for _, line := range lines {
		var output string
		b, output = lineByRule(b, line)
		outputs += output + "\n"
	}
	return b, outputs
}

func wantRunOk(t *testing.T, what string, b impl.Lab, script string, want impl.Lab, wantOutputs string) {
	t.Helper()
	got, outputs, ok := impl.RunLab(b, script)
	wantOk(t, what+": outputs", outputs, ok, wantOutputs)
	wantLab(t, what, got, want)
}

// wantScript requires a script to do what its lines do by the rule.
func wantScript(t *testing.T, what string, b impl.Lab, lines ...string) {
	t.Helper()
	want, outputs := runByLines(b, lines...)
	wantRunOk(t, what, b, scriptOf(lines...), want, outputs)
}

// trainingLab has the optimiser, data and state of a training.
func trainingLab(a trainArguments) impl.Lab { return lab(a.optimizer, a.data, a.state) }

// labs has valid labs: the new one, those of trainings, whose data fit, and
// those with models of any layers, with data that fit or do not.
func (c *chance) labs() map[string]impl.Lab {
	list := map[string]impl.Lab{"the new lab": newLab()}
	sorts := []func(int) []float32{c.smallList, c.mixedList, c.anyList}
	for name, m := range c.trainable() {
		a := c.training(m, int64(c.below(5)), int64(1+c.below(16)), sorts[c.below(3)])
		list["training: "+name] = trainingLab(a)
	}
	for name, m := range c.models() {
		if name == "the most" {
			continue
		}
		b := trainingLab(c.training(m, int64(c.below(5)), int64(1+c.below(16)), sorts[c.below(3)]))
		list[name] = b
		b.Data = examples(c.anyTensor(2, int64(1+c.below(16))), c.anyTensor(2, int64(1+c.below(16))))
		list[name+" with other data"] = b
	}
	for _, kind := range allStepKinds() {
		list["told, of kind "+impl.Decimal(kind)] = trainingLab(toldTraining(kind))
	}
	last := trainingLab(toldTraining(impl.StepAdam))
	last.State.Steps = impl.MaxSteps
	list["MaxSteps"] = last
	last.State.Steps--
	list["a step left"] = last
	return list
}

func (c *chance) oneOf(words ...string) string { return words[c.below(len(words))] }

// wordFor returns a word that can stand at a place of a form, or seldom any
// other one.
func (c *chance) wordFor(form string, count int64) string {
	if c.below(24) == 0 {
		return c.oddWord()
	}
	numbers := func(count int) string { return textByRule(c.mixedList(count)...) }
	switch form {
	case "KIND":
		return c.oneOf(layerNames()...)
	case "STEP":
		return c.oneOf(stepNames()...)
	case "HEX":
		return numbers(1)
	case "SEED":
		return impl.Decimal(c.seed())
	case "N":
		return impl.Decimal(int64(1 + c.below(16)))
	case "M":
		return impl.Decimal(int64(c.below(4)))
	case "NUMBERS":
		return numbers(int(count))
	}
	return impl.Decimal(count)
}

func (c *chance) oddWord() string {
	return c.oneOf(append(notDecimals(), "none", "None", "NONE", ",", "3f800000,", "3F800000", "3f80000", "7fc00001", "0", "9", "17", "41", "2147483648", "Dense", "cube", "denses", "adams", textByRule(filled(256, 1)...), textByRule(filled(257, 1)...))...)
}

// lineFor returns a line of any form for b, which is often carried out.
func (c *chance) lineFor(b impl.Lab) string {
	word := func(form string) string { return c.wordFor(form, 0) }
	numbers := func(count int64) string { return c.wordFor("NUMBERS", count) }
	size := func(n int64) string { return c.wordFor("SIZE", n) }
	layers := b.State.Model.Layers
	in, out, name := int64(1+c.below(4)), int64(1+c.below(4)), word("KIND")
	switch c.below(16) {
	case 0, 1:
		out = outFor(int64(slices.Index(layerNames(), name)), in, out)
		weights, bias := sizesByRule(int64(slices.Index(layerNames(), name)), in, out)
		return strings.Join([]string{"first", name, size(in), size(out), numbers(weights + bias)}, " ")
	case 2, 3:
		in = layers[len(layers)-1].Out
		out = outFor(int64(slices.Index(layerNames(), name)), in, out)
		weights, bias := sizesByRule(int64(slices.Index(layerNames(), name)), in, out)
		return strings.Join([]string{"layer", name, size(out), numbers(weights + bias)}, " ")
	case 4:
		return strings.Join([]string{"optimizer", word("STEP"), word("HEX"), word("HEX"), word("HEX"), word("HEX")}, " ")
	case 5:
		return "seed " + word("SEED")
	case 6, 7:
		rows := int64(1 + c.below(4))
		if c.below(3) > 0 {
			in, out = layers[0].In, layers[len(layers)-1].Out
		}
		return strings.Join([]string{"data", size(in), size(out), numbers(rows * in), numbers(rows * out)}, " ")
	case 8, 9:
		return "train " + word("N") + " " + word("M")
	case 10:
		return "run " + numbers(layers[0].In)
	}
	return c.oneOf("loss", "right", "params", "plan", "round", "steps")
}

// mangled returns a line with a small change, which makes it none more often
// than not.
func (c *chance) mangled(line string) string {
	at := c.below(len(line) + 1)
	to := min(at+1, len(line))
	switch c.below(7) {
	case 0:
		return line[:at] + " " + line[at:]
	case 1:
		return line[:at] + line[to:]
	case 2:
		return line[:at] + c.anyText(1) + line[to:]
	case 3:
		return line[:at] + strings.ToUpper(line[at:to]) + line[to:]
	case 4:
		return line[:at]
	case 5:
		return line + " " + c.oddWord()
	}
	return line[:at] + line[at:to] + line[at:]
}

// brokenLabs has labs that differ from valid ones in one way each.
func brokenLabs() map[string]impl.Lab {
	valid := trainingLab(toldTraining(impl.StepMomentum))
	list := map[string]impl.Lab{"the zero struct": {}}
	change := func(name string, change func(b *impl.Lab)) {
		for what, b := range map[string]impl.Lab{"": newLab(), " of a training": valid} {
			change(&b)
			list[name+what] = b
		}
	}
	for name, broken := range brokenTensors() {
		change("Inputs: "+name, func(b *impl.Lab) { b.Data.Inputs = broken })
		change("Targets: "+name, func(b *impl.Lab) { b.Data.Targets = broken })
		change("both: "+name, func(b *impl.Lab) { b.Data = examples(broken, broken) })
	}
	change("a row of Inputs more", func(b *impl.Lab) {
		b.Data.Inputs = tensor(b.Data.Targets.Rows+1, 1, filled(int(b.Data.Targets.Rows+1), 1)...)
	})
	change("a row of Targets more", func(b *impl.Lab) {
		b.Data.Targets = tensor(b.Data.Inputs.Rows+1, 1, filled(int(b.Data.Inputs.Rows+1), 1)...)
	})
	change("no data", func(b *impl.Lab) { b.Data = impl.Examples{} })
	change("no state", func(b *impl.Lab) { b.State = impl.TrainState{} })
	for name, broken := range brokenModels() {
		change("the model: "+name, func(b *impl.Lab) { b.State.Model = broken })
	}
	c := chance(800)
	more := c.oneMoreParam()
	change("too many parameters", func(b *impl.Lab) {
		b.State = state(more, emptySlots(b.Optimizer.Kind, more), 0, 0, 1)
	})
	for name, broken := range brokenStates(valid.State) {
		list["the state: "+name] = lab(valid.Optimizer, valid.Data, broken)
	}
	for _, kind := range otherStepKinds() {
		change("the kind "+impl.Decimal(kind), func(b *impl.Lab) { b.Optimizer.Kind = kind })
	}
	for _, kind := range allStepKinds() {
		for _, other := range allStepKinds() {
			if slotsByRule(kind) != slotsByRule(other) {
				b := trainingLab(toldTraining(kind))
				b.Optimizer.Kind = other
				list["the state of the kind "+impl.Decimal(kind)+" and the kind "+impl.Decimal(other)] = b
			}
		}
	}
	return list
}

// roomyLab returns a copy of b with unused capacity everywhere.
func roomyLab(b impl.Lab) impl.Lab {
	return lab(b.Optimizer, examples(roomy(b.Data.Inputs), roomy(b.Data.Targets)), roomyState(b.State))
}

// rawLab shows all of b, with its unused capacity.
func rawLab(b impl.Lab) string {
	return rawTraining(trainArguments{data: b.Data, state: b.State}) + textOfResult(b)
}

// listsOfLab has all lists of numbers of b.
func listsOfLab(b impl.Lab) [][]float32 {
	return append(listsOf(b.State), b.Data.Inputs.Data, b.Data.Targets.Data)
}

// checkNumberByRule is the text of the document.
func checkNumberByRule(start int64, line string) int64 {
	for _, part := range []byte(line) {
		start = 523*start + int64(part) + 17
		start -= start / 65003 * 65003
	}
	return start
}

func journalByRule(lines ...string) string {
	journal, check := "", int64(0)
	for _, line := range lines {
		check = checkNumberByRule(check, line)
		journal += strconv.FormatInt(check, 10) + " " + line + "\n"
	}
	return journal
}

// recoverByRule cuts a text at its newlines, and takes what is a line of a
// journal.
func recoverByRule(t string) (lines []string, length int64) {
	check := int64(0)
	pieces := strings.SplitAfter(t, "\n")
	for _, piece := range pieces[:len(pieces)-1] {
		digits, line, hasBlank := strings.Cut(strings.TrimSuffix(piece, "\n"), " ")
		check = checkNumberByRule(check, line)
		if !hasBlank || digits != strconv.FormatInt(check, 10) {
			break
		}
		lines = append(lines, line)
		length += int64(len(piece))
	}
	return lines, length
}

func wantRecovered(t *testing.T, what, text string, want ...string) {
	t.Helper()
	lines, length, ok := impl.RecoverJournal(text)
	wantListOk(t, "the lines of "+what, lines, ok, want)
	wantOk(t, "the length of "+what, length, ok, int64(len(journalByRule(want...))))
}

// wantRecoveredByRule requires RecoverJournal to do what recoverByRule does.
func wantRecoveredByRule(t *testing.T, what, text string) {
	t.Helper()
	want, length := recoverByRule(text)
	wantValue(t, "by the rule, the length of "+what, length, int64(len(journalByRule(want...))))
	wantRecovered(t, what, text, want...)
}

func wantJournal(t *testing.T, what string, lines ...string) {
	t.Helper()
	journal, ok := impl.JournalOf(lines)
	wantOk(t, "JournalOf "+what, journal, ok, journalByRule(lines...))
	wantRecovered(t, what, journal, lines...)
}
