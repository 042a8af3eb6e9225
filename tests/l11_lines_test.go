package tests

import (
	"fmt"
	"slices"
	"strings"
	"testing"

	"loop.example/g01157/impl"
)

func TestLinesWithLayersOfEachKind(t *testing.T) {
	b := wantSpoken(t, newLab(),
		spoken{"first dense 2 3 3f800000,40000000,40400000,40800000,40a00000,40c00000,3f000000,bf000000,00000000", "ok"},
		spoken{"params", "3f800000,40000000,40400000,40800000,40a00000,40c00000,3f000000,bf000000,00000000"},
		spoken{"run 3f800000,3f800000", "40600000,40d00000,41300000"},
		spoken{"layer relu 3 none", "ok"}, spoken{"plan", "dense+2>3"},
		spoken{"layer scale 3 3f800000,40000000,bf800000", "ok"}, spoken{"plan", "dense+2>3 scale3>3"},
		spoken{"run 3f800000,3f800000", "40600000,41500000,c1300000"},
		spoken{"layer tanh 3 none", "ok"}, spoken{"plan", "dense+2>3 scale3>3 tanh3>3"},
		spoken{"layer softmax 3 none", "ok"}, spoken{"plan", "dense+2>3 scale3>3 tanh3>3 softmax3>3"},
		spoken{"layer norm 3 3f800000,3f800000,3f800000,00000000,00000000,00000000", "ok"},
		spoken{"plan", "dense+2>3 scale3>3 tanh3>3 softmax3>3 norm3>3"},
		spoken{"params", "3f800000,40000000,40400000,40800000,40a00000,40c00000,3f000000,bf000000,00000000,3f800000,40000000,bf800000,3f800000,3f800000,3f800000,00000000,00000000,00000000"},
	)
	wantValue(t, "the layers", len(b.State.Model.Layers), 6)
	// There is no room for one more, of whatever kind.
	wantRefusedLines(t, b, "layer relu 3 none", "layer tanh 3 none", "layer softmax 3 none", "layer scale 3 3f800000,3f800000,3f800000", "layer dense 1 3f800000,3f800000,3f800000,00000000")
	for kind, name := range layerNames() {
		weights, bias := sizesByRule(int64(kind), 2, 2)
		numbers := textByRule(filled(int(weights), 2)...)
		if weights > 0 {
			numbers = textByRule(append(filled(int(weights), 2), filled(int(bias), 3)...)...)
		}
		b := wantSpoken(t, newLab(), spoken{"first " + name + " 2 2 " + numbers, "ok"}, spoken{"plan", name + "2>2"}, spoken{"params", numbers})
		wantLab(t, "the first layer "+name, b, withModel(newLab(), model(layer(int64(kind), 2, 2, filled(int(weights), 2), filled(int(bias), 3)))))
	}
}

// withModel has a model without steps in the new lab.
func withModel(b impl.Lab, m impl.Model) impl.Lab {
	b.State = state(m, emptySlots(b.Optimizer.Kind, m), 0, b.State.Seed, 1)
	return b
}

// numbersLine is a line with count numbers at its end.
func numbersLine(form string, count int64) string {
	return form + " " + textByRule(filled(int(count), 1)...)
}

func TestLinesWithLayersOfEachSize(t *testing.T) {
	for kind, name := range layerNames() {
		for in := int64(-1); in <= 9; in++ {
			for out := int64(-1); out <= 9; out++ {
				weights, bias := sizesByRule(int64(kind), in, out)
				isLayer := in >= 1 && in <= 8 && out >= 1 && out <= 8 && (kind == impl.LayerDense || in == out)
				line := numbersLine(fmt.Sprintf("first %s %d %d", name, in, out), max(0, weights+bias))
				_, output := wantLine(t, newLab(), line)
				wantValue(t, line, output, map[bool]string{true: "ok", false: "no"}[isLayer])
				if in < 1 || in > 8 {
					continue
				}
				line = numbersLine(fmt.Sprintf("layer %s %d", name, out), max(0, weights+bias))
				behind := withModel(newLab(), model(layer(impl.LayerTanh, in, in, nil, nil)))
				_, output = wantLine(t, behind, line)
				wantValue(t, line, output, map[bool]string{true: "ok", false: "no"}[isLayer])
			}
		}
	}
}

func TestLinesWithTooFewOrTooManyNumbers(t *testing.T) {
	for kind, name := range layerNames() {
		for _, size := range []int64{1, 2, 3, 8} {
			weights, bias := sizesByRule(int64(kind), size, size)
			for count := int64(0); count <= 80; count++ {
				for _, form := range []string{fmt.Sprintf("first %s %d %d", name, size, size), fmt.Sprintf("layer %s %d", name, size)} {
					b := withModel(newLab(), model(layer(impl.LayerRelu, size, size, nil, nil)))
					_, output := wantLine(t, b, numbersLine(form, count))
					wantValue(t, form, output, map[bool]string{true: "ok", false: "no"}[count == weights+bias])
				}
			}
		}
	}
}

// Six layers are the most, and MaxNumbers parameters.
func TestLinesWithTheMostLayersAndParameters(t *testing.T) {
	b := wantSpoken(t, newLab(), spoken{"first relu 2 2 none", "ok"})
	for range 5 {
		b = wantSpoken(t, b, spoken{"layer relu 2 none", "ok"})
	}
	wantRefusedLines(t, b, "layer relu 2 none", numbersLine("layer scale 2", 2))
	wantSpoken(t, b, spoken{"plan", "relu2>2"}, spoken{"first relu 3 3 none", "ok"}, spoken{"layer relu 3 none", "ok"})
	square := numbersLine("layer dense 8", 72)
	b = wantSpoken(t, newLab(), spoken{numbersLine("first dense 8 8", 72), "ok"}, spoken{square, "ok"}, spoken{square, "ok"})
	wantRefusedLines(t, b, square, numbersLine("layer dense 5", 45))
	b = wantSpoken(t, b, spoken{numbersLine("layer dense 4", 36), "ok"})
	wantRefusedLines(t, b, numbersLine("layer dense 1", 5), numbersLine("layer norm 4", 8))
	b = wantSpoken(t, b, spoken{numbersLine("layer scale 4", 4), "ok"})
	wantValue(t, "the most parameters", len(paramsByRule(b.State.Model)), impl.MaxNumbers)
	wantSpoken(t, b, spoken{"params", textByRule(filled(256, 1)...)})
	wantRefusedLines(t, b, numbersLine("layer scale 4", 4), numbersLine("layer dense 1", 5))
	wantSpoken(t, b, spoken{"layer tanh 4 none", "ok"})
	wantSpoken(t, b, spoken{"optimizer adam 3c23d70a 3f666666 3f7fbe77 322bcc77", "ok"}, spoken{"params", textByRule(filled(256, 1)...)})
}

func TestLinesWithOptimisersOfEachKind(t *testing.T) {
	start := trainingLab(toldTraining(impl.StepAdam))
	start.State.Steps, start.State.Scale = 7, 3
	for kind, name := range stepNames() {
		got := wantSpoken(t, start, spoken{"optimizer " + name + " 3f000000 3e800000 80000000 7f800000", "ok"}, spoken{"steps", "0"})
		want := start
		want.Optimizer = optimizer(int64(kind), 0.5, 0.25, minusZero, infinity)
		want.State = state(start.State.Model, emptySlots(int64(kind), start.State.Model), 0, 7, 1)
		wantLab(t, "the optimiser "+name, got, want)
		wantSpoken(t, newLab(), spoken{"optimizer " + name + " 7fc00000 ff800000 00000001 ff7fffff", "ok"}, spoken{"optimizer " + name + " 00000000 00000000 00000000 00000000", "ok"})
		for place := range 4 {
			for _, bad := range []string{"none", "", "3f800000,3f800000", "3f80000", "3F800000", "7fc00001", "0.5", "1", name} {
				words := []string{"optimizer", name, "3f800000", "40000000", "40400000", "40800000"}
				words[2+place] = bad
				wantRefusedLines(t, start, strings.Join(words, " "))
			}
		}
	}
	for _, bad := range append(layerNames(), "", "Plain", "adams", "ada", "none", "0", "4", "5", "-1", "plain,adam", "\xff") {
		wantRefusedLines(t, start, "optimizer "+bad+" 3f000000 3e800000 3f800000 00000000")
	}
}

func TestLinesWithKindsThatAreNone(t *testing.T) {
	b := trainingLab(toldTraining(impl.StepMean))
	for _, bad := range append(stepNames(), "", "Relu", "RELU", "rel", "relus", "cube", "none", "0", "1", "6", "-1", "relu,tanh", "relu\x00", "\xff") {
		wantRefusedLines(t, b, "first "+bad+" 2 2 none", "layer "+bad+" 2 none", "first "+bad+" 1 1 3f800000,3f800000", "layer "+bad+" 1 3f800000")
	}
}

// otherNumberWords has words that are no numbers in decimal.
func otherNumberWords() []string {
	return append(notDecimals(), "none", "3f800000", "01", "007", "+2", "-0", "2.", "2,2", "1000000000000001", "00000000000000002")
}

func TestLinesWithNumbersThatAreNone(t *testing.T) {
	b := trainingLab(toldTraining(impl.StepMomentum))
	for _, bad := range otherNumberWords() {
		// Some of these have a blank, which makes words of them.
		if strings.Contains(bad, " ") {
			continue
		}
		wantRefusedLines(t, b, "seed "+bad, "first relu "+bad+" 2 none", "first relu 2 "+bad+" none", "layer relu "+bad+" none",
			"train "+bad+" 1", "train 1 "+bad, "data "+bad+" 1 3f800000 3f800000", "data 1 "+bad+" 3f800000 3f800000")
	}
}

// otherListWords has words that are no lists of numbers.
func otherListWords() []string {
	return []string{
		"", ",", "None", "none,", "none,3f800000", "3f800000,", ",3f800000", "3f800000,,3f800000", "3F800000", "3f80000", "3f8000000", "+f800000", "0x3f8000", "3g800000",
		"7fc00001", "ffc00000", "7f800001", "1", "1,2", "3f800000\t", "\xff\xff\xff\xff\xff\xff\xff\xff", "3f800000;3f800000", textByRule(filled(257, 1)...),
	}
}

func TestLinesWithListsThatAreNone(t *testing.T) {
	b := withModel(newLab(), model(layer(impl.LayerScale, 1, 1, []float32{2}, nil)))
	for _, bad := range otherListWords() {
		wantRefusedLines(t, b, "first scale 1 1 "+bad, "first relu 1 1 "+bad, "layer scale 1 "+bad, "layer relu 1 "+bad, "run "+bad,
			"data 1 1 "+bad+" 3f800000", "data 1 1 3f800000 "+bad, "data 1 1 "+bad+" "+bad)
	}
	wantRefusedLines(t, b, "first scale 1 1 none", "layer scale 1 none", "first dense 1 1 none", "run none", "data 1 1 none none", "data 1 1 3f800000 none", "data 1 1 none 3f800000")
	wantSpoken(t, b, spoken{"first relu 1 1 none", "ok"}, spoken{"layer tanh 1 none", "ok"}, spoken{"params", "none"})
}

func TestLinesWithSeeds(t *testing.T) {
	for kind := range stepNames() {
		b := trainingLab(toldTraining(int64(kind)))
		b.State.Steps, b.State.Scale = 9, minusZero
		for i := range b.State.Slots {
			b.State.Slots[i] = filled(20, 5)
		}
		for _, seed := range seeds() {
			got := wantSpoken(t, b, spoken{"seed " + impl.Decimal(seed), "ok"}, spoken{"steps", "0"})
			want := b
			want.State = state(b.State.Model, emptySlots(int64(kind), b.State.Model), 0, seed, 1)
			wantLab(t, "behind a seed", got, want)
		}
		for _, seed := range otherSeeds() {
			wantRefusedLines(t, b, "seed "+impl.Decimal(seed))
		}
		wantRefusedLines(t, b, "seed 2147483648", "seed 1000000000000000", "seed -1000000000000000")
	}
}

func TestLinesWithData(t *testing.T) {
	b := trainingLab(toldTraining(impl.StepMomentum))
	b.State.Steps = 5
	got := wantSpoken(t, b, spoken{"data 2 1 3f800000,40000000,40400000,40800000 7f800000,7fc00000", "ok"}, spoken{"steps", "5"})
	want := b
	want.Data = examples(tensor(2, 2, 1, 2, 3, 4), tensor(2, 1, infinity, nan))
	wantLab(t, "behind data", got, want)
	c := chance(820)
	for in := int64(-1); in <= 18; in++ {
		for out := int64(-1); out <= 18; out++ {
			for _, rows := range []int64{0, 1, 2, 15, 16, 17} {
				inputs, targets := c.mixedList(int(max(0, rows*in))), c.mixedList(int(max(0, rows*out)))
				line := fmt.Sprintf("data %d %d %s %s", in, out, textByRule(inputs...), textByRule(targets...))
				isData := in >= 1 && in <= 16 && out >= 1 && out <= 16 && rows >= 1 && rows <= 16
				got, output := wantLine(t, b, line)
				wantValue(t, "the output of data", output, map[bool]string{true: "ok", false: "no"}[isData])
				if isData {
					want.Data = examples(tensor(rows, in, inputs...), tensor(rows, out, targets...))
					wantLab(t, "behind data of any size", got, want)
				}
			}
		}
	}
	wantRefusedLines(t, b, "data 2 1 3f800000 3f800000", "data 2 1 3f800000,3f800000,3f800000 3f800000", "data 2 1 3f800000,3f800000,3f800000 3f800000,3f800000",
		"data 1 1 3f800000,3f800000 3f800000", "data 1 1 3f800000 3f800000,3f800000", "data 1 2 3f800000,3f800000 3f800000,3f800000", "data 3 3 3f800000 3f800000",
		"data 1000000000000000 1 3f800000 3f800000", "data 1 1000000000000000 3f800000 3f800000", "data 4294967296 4294967296 none none", "data 0 0 none none", "data -1 -1 3f800000 3f800000")
}

// The new lab swings between two states with the rate 0.5, and is at its goal
// behind a step with the rate 0.25.
func TestLinesThatTrain(t *testing.T) {
	b := wantSpoken(t, newLab(), spoken{"train 1 1", "00000000"}, spoken{"steps", "1"}, spoken{"params", "00000000,00000000"},
		spoken{"data 1 1 3f800000 3f800000", "ok"}, spoken{"loss", "3f800000"}, spoken{"steps", "1"},
		spoken{"train 1 1", "3f800000"}, spoken{"params", "3f800000,3f800000"}, spoken{"loss", "3f800000"},
		spoken{"train 16 2", "3f800000,3f800000"}, spoken{"params", "3f800000,3f800000"}, spoken{"steps", "4"},
		spoken{"train 1 0", "none"}, spoken{"steps", "4"},
		spoken{"train 2 40", textByRule(filled(40, 1)...)}, spoken{"steps", "44"},
		spoken{"optimizer plain 3e800000 00000000 00000000 00000000", "ok"}, spoken{"steps", "0"}, spoken{"params", "3f800000,3f800000"},
		spoken{"train 1 2", "3f800000,00000000"}, spoken{"params", "3f000000,3f000000"}, spoken{"loss", "00000000"}, spoken{"right", "1"}, spoken{"steps", "2"})
	wantRefusedLines(t, b, "train 0 1", "train 17 1", "train -1 1", "train 1 -1", "train 1 41", "train 0 0", "train 17 0", "train 1000000000000000 1", "train 1 1000000000000000", "train 1 none")
	for batch := int64(1); batch <= 16; batch++ {
		for _, steps := range []int64{0, 1, 39, 40} {
			got, _ := wantLine(t, b, fmt.Sprintf("train %d %d", batch, steps))
			wantValue(t, "the Steps", got.State.Steps, 2+steps)
		}
	}
	for _, steps := range []int64{0, 1, 2, 39, 40} {
		b.State.Steps = impl.MaxSteps - steps
		wantSpoken(t, b, spoken{"train 1 0", "none"})
		got, _ := wantLine(t, b, "train 3 "+impl.Decimal(steps))
		wantValue(t, "the most Steps", got.State.Steps, impl.MaxSteps)
		wantRefusedLines(t, b, "train 3 "+impl.Decimal(steps+1))
		wantRefusedLines(t, got, "train 3 1", "train 1 40")
		wantSpoken(t, got, spoken{"train 3 0", "none"}, spoken{"steps", "1000"})
	}
}

func TestLinesThatTrainWithEachKind(t *testing.T) {
	c := chance(821)
	for name, a := range c.trainings() {
		b := trainingLab(a)
		steps := int64(c.below(4))
		want, losses, _ := a.train(steps)
		got, output := wantLine(t, b, fmt.Sprintf("train %d %d", a.batch, steps))
		wantValue(t, "the losses of "+name, output, textByRule(losses...))
		b.State = want
		wantLab(t, "the state of "+name, got, b)
	}
}

// A line that shows something outputs what the function of its chapter
// returns, and `no` if this fails.
func TestLinesThatShow(t *testing.T) {
	c := chance(822)
	numbers := func(list []float32, ok bool) string {
		if !ok {
			return "no"
		}
		return textByRule(list...)
	}
	for name, b := range c.labs() {
		m := b.State.Model
		loss, hasLoss := impl.EvaluateModel(m, b.Data)
		right := "no"
		if count, ok := impl.CountCorrect(m, b.Data); ok {
			right = impl.Decimal(count)
		}
		params, _ := impl.ParamsOf(m)
		compiled, _ := impl.CompileModel(m)
		text, _ := impl.PlanText(compiled)
		wantSpoken(t, b, spoken{"loss", numbers([]float32{loss}, hasLoss)}, spoken{"right", right}, spoken{"params", numbers(params, true)},
			spoken{"plan", text}, spoken{"steps", impl.Decimal(b.State.Steps)})
		for count := range 18 {
			for _, x := range [][]float32{c.smallList(count), c.mixedList(count), c.namedList(count)} {
				made, ok := impl.RunModel(m, tensor(1, int64(count), x...))
				wantSpoken(t, b, spoken{"run " + textByRule(x...), numbers(made.Data, ok)})
			}
		}
		rounded, _ := impl.RoundModel(m)
		got := wantSpoken(t, b, spoken{"round", "ok"})
		b.State.Model = rounded
		wantLab(t, "the rounded "+name, got, b)
	}
}

// Lines that need data that fit the model are refused if these do not, or if
// a layer has no gradients; the others are not.
func TestLinesWithDataThatDoNotFit(t *testing.T) {
	b := wantSpoken(t, newLab(), spoken{numbersLine("first dense 2 3", 9), "ok"})
	for _, line := range []string{"data 1 1 3f800000 3f800000", "data 2 2 3f800000,3f800000 3f800000,3f800000", "data 3 3 3f800000,3f800000,3f800000 3f800000,3f800000,3f800000", "data 3 2 3f800000,3f800000,3f800000 3f800000,3f800000"} {
		other := wantSpoken(t, b, spoken{line, "ok"})
		wantRefusedLines(t, other, "loss", "right", "train 1 1", "train 1 40")
		wantSpoken(t, other, spoken{"train 1 0", "none"}, spoken{"run 3f800000,3f800000", "40400000,40400000,40400000"}, spoken{"steps", "0"}, spoken{"plan", "dense2>3"}, spoken{"round", "ok"}, spoken{"seed 4", "ok"})
	}
	for _, name := range []string{"tanh", "softmax"} {
		other := wantSpoken(t, newLab(), spoken{"first " + name + " 2 2 none", "ok"}, spoken{"data 2 2 3f800000,40000000 3f800000,40000000", "ok"}, spoken{"right", "1"})
		wantRefusedLines(t, other, "loss", "train 1 1")
		wantSpoken(t, other, spoken{"train 1 0", "none"})
	}
	norm := wantSpoken(t, newLab(), spoken{numbersLine("first norm 1 1", 2), "ok"}, spoken{"right", "1"})
	wantRefusedLines(t, norm, "loss", "train 1 1")
}

// Numbers that are infinite or none are shown as any others, and both zeros
// are kept apart.
func TestLinesWithOtherNumbers(t *testing.T) {
	wantSpoken(t, newLab(),
		spoken{"first dense 1 2 7f800000,7fc00000,80000000,ff800000", "ok"}, spoken{"params", "7f800000,7fc00000,80000000,ff800000"},
		spoken{"run 3f800000", "7f800000,7fc00000"}, spoken{"run 00000000", "7fc00000,7fc00000"}, spoken{"round", "ok"}, spoken{"params", "7f800000,7fc00000,80000000,ff800000"},
		spoken{"data 1 2 3f800000 3f800000,3f800000", "ok"}, spoken{"loss", "7fc00000"}, spoken{"right", "1"}, spoken{"train 1 2", "7fc00000,7fc00000"}, spoken{"params", "7fc00000,7fc00000,7fc00000,7fc00000"},
		spoken{"first scale 1 1 7f7fffff", "ok"}, spoken{"run 40000000", "7f800000"}, spoken{"run c0000000", "ff800000"}, spoken{"run 80000000", "80000000"}, spoken{"run 00000000", "00000000"},
		spoken{"data 1 1 40000000 00000000", "ok"}, spoken{"loss", "7f800000"}, spoken{"train 1 1", "7f800000"}, spoken{"params", "ff800000"}, spoken{"train 1 1", "7f800000"}, spoken{"params", "7fc00000"}, spoken{"round", "ok"}, spoken{"params", "7fc00000"},
		spoken{"first scale 2 2 3f808001,00000001", "ok"}, spoken{"round", "ok"}, spoken{"params", "3f810000,00000000"}, spoken{"params", "3f810000,00000000"},
		spoken{"first scale 2 2 3f807fff,80000001", "ok"}, spoken{"round", "ok"}, spoken{"params", "3f800000,80000000"}, spoken{"round", "ok"}, spoken{"params", "3f800000,80000000"},
		spoken{"first relu 2 2 none", "ok"}, spoken{"run 80000000,7fc00000", "00000000,7fc00000"}, spoken{"first scale 1 1 80000000", "ok"}, spoken{"params", "80000000"}, spoken{"run 80000000", "00000000"}, spoken{"run 3f800000", "80000000"},
		spoken{"first scale 1 1 7f7fffff", "ok"}, spoken{"round", "ok"}, spoken{"params", "7f800000"},
	)
}

// A rounded model keeps its steps, slots, seed and Scale, and so do data.
func TestLinesThatKeepTheTraining(t *testing.T) {
	for kind := range stepNames() {
		a := toldTraining(int64(kind))
		a.state.Scale = 12
		next, _, _ := a.train(3)
		a.state = next
		b := trainingLab(a)
		rounded := wantSpoken(t, b, spoken{"round", "ok"}, spoken{"steps", "3"})
		want := b
		want.State.Model = roundedByRule(b.State.Model)
		wantLab(t, "a rounded model", rounded, want)
		got := wantSpoken(t, b, spoken{"data 1 1 00000000 80000000", "ok"}, spoken{"steps", "3"})
		want = b
		want.Data = examples(tensor(1, 1, 0), tensor(1, 1, minusZero))
		wantLab(t, "other data", got, want)
	}
}

func TestLinesThatAreNone(t *testing.T) {
	lines := []string{
		"", " ", "  ", "\t", "\n", "\x00", "\xff", "\xff\xfe", "what", "ok", "no", "help", "quit", "none", "0", ",",
		"loss ", " loss", " loss ", "loss  ", "loss\n", "loss\r", "loss\t", "Loss", "LOSS", "los", "losss", "loss 1", "loss none", "loss loss", "loss\x00", "lo ss",
		"right ", " right", "Right", "right 1", "params ", " params", "params 1", "param", "Params", "plan ", " plan", "plan 1", "Plan", "plans",
		"round ", " round", "round 1", "Round", "steps ", " steps", "steps 1", "Steps", "step", "run", "runs 3f800000", " run 3f800000", "run 3f800000 ", "run  3f800000", "run 3f800000 3f800000", "Run 3f800000", "run\t3f800000", "run,3f800000",
		"train", "train 1", "train ", "train 1 1 ", " train 1 1", "train  1 1", "train 1  1", "train 1 1 1", "TRAIN 1 1", "train\t1 1", "train 1\t1",
		"seed", "seed 1 ", " seed 1", "seed  1", "seed 1 2", "Seed 1", "seed\t1", "seeds 1", "first", "layer", "optimizer", "data", "first ", "layer ", "optimizer ", "data ", "KIND", "first KIND IN OUT", "first dense", "first dense 1 1", "first dense 1", "first relu 1 1 none ", "first  relu 1 1 none", " first relu 1 1 none",
		"first relu 1 1 none none", "First relu 1 1 none", "firstrelu 1 1 none", "first relu 1 1", "layer relu 1", "layer relu", "layer relu 1 none ", " layer relu 1 none", "layer  relu 1 none", "layer relu 1 1 none", "Layer relu 1 none", "layers relu 1 none",
		"optimizer plain", "optimizer plain 3f000000 00000000 00000000", "optimizer plain 3f000000 00000000 00000000 00000000 ", " optimizer plain 3f000000 00000000 00000000 00000000", "optimizer plain 3f000000,00000000,00000000,00000000", "optimizer  plain 3f000000 00000000 00000000 00000000", "optimizer plain 3f000000 00000000 00000000 00000000 00000000", "optimiser plain 3f000000 00000000 00000000 00000000", "Optimizer plain 3f000000 00000000 00000000 00000000",
		"data 1 1 00000000", "data 1 1 00000000 00000000 ", " data 1 1 00000000 00000000", "data  1 1 00000000 00000000", "data 1 1 00000000 00000000 00000000", "Data 1 1 00000000 00000000", "data 1 1", "data 1",
		strings.Repeat(" ", 7), strings.Repeat("a", 9000), strings.Repeat("steps ", 5), strings.Repeat("first relu 1 1 none ", 500),
		// Blanks and letters that only look as if they were some.
		"first\vrelu 1 1 none", "loss\v", "seed\u00a01", "run\u20033f800000", "l\u043ess", "\uff4coss", "loss\u200b",
	}
	for _, b := range []impl.Lab{newLab(), trainingLab(toldTraining(impl.StepAdam))} {
		wantUnknownLines(t, b, lines...)
	}
}

// Each form with a word too few, a word too many, with its name in other
// letters, and with an empty word at each place.
func TestEachFormWithOtherWords(t *testing.T) {
	b := withModel(newLab(), model(layer(impl.LayerScale, 1, 1, []float32{2}, nil)))
	for _, line := range []string{
		"first scale 1 1 3f800000", "layer scale 1 3f800000", "optimizer plain 3f000000 00000000 00000000 00000000", "seed 1", "data 1 1 00000000 00000000", "train 1 1",
		"loss", "right", "run 3f800000", "params", "plan", "round", "steps",
	} {
		_, output := wantLine(t, b, line)
		wantValue(t, line+" is carried out", output != "no" && output != "what", true)
		words := strings.Split(line, " ")
		for count := range len(words) {
			wantUnknownLines(t, b, strings.Join(words[:count], " "), strings.Join(words[1:1+count], " "))
		}
		for place := range words {
			wantUnknownLines(t, b, strings.Join(slices.Insert(slices.Clone(words), place, ""), " "), strings.Join(slices.Insert(slices.Clone(words), place, words[place]), " "))
			empty := slices.Clone(words)
			empty[place] = ""
			if place == 0 {
				wantUnknownLines(t, b, strings.Join(empty, " "))
			} else {
				wantRefusedLines(t, b, strings.Join(empty, " "))
			}
		}
		for place := range words[0] {
			name := words[0][:place] + strings.ToUpper(words[0][place:place+1]) + words[0][place+1:]
			wantUnknownLines(t, b, name+line[len(words[0]):], words[0][:place]+words[0][place+1:]+line[len(words[0]):])
		}
		wantUnknownLines(t, b, line+" ", " "+line, strings.ToUpper(line), line+" none")
	}
}

// Any lines, most of which are carried out, and small changes of them do what
// the rule does.
func TestAnyLines(t *testing.T) {
	c := chance(823)
	outputs := map[string]int{}
	for _, b := range c.labs() {
		for range 60 {
			line := c.lineFor(b)
			for range 2 {
				wantLine(t, b, c.mangled(line))
			}
			var output string
			b, output = wantLine(t, b, line)
			outputs[output]++
		}
	}
	wantValue(t, "many lines are done", outputs["ok"] > 500, true)
	wantValue(t, "some are refused", outputs["no"] > 100, true)
}
