package tests

import (
	"testing"

	"loop.example/g01157/impl"
)

// The new lab has no -0 anywhere, which would be another number.
func TestNewLab(t *testing.T) {
	b := impl.NewLab()
	wantLab(t, "the new lab", b, newLab())
	wantValue(t, "its kind of optimiser", b.Optimizer.Kind, impl.StepPlain)
	wantNumber(t, "its Rate", b.Optimizer.Rate, 0.5)
	wantNumber(t, "its Beta1", b.Optimizer.Beta1, 0)
	wantNumber(t, "its Beta2", b.Optimizer.Beta2, 0)
	wantNumber(t, "its Eps", b.Optimizer.Eps, 0)
	wantTensor(t, "its Inputs", b.Data.Inputs, tensor(1, 1, 0))
	wantTensor(t, "its Targets", b.Data.Targets, tensor(1, 1, 0))
	wantValue(t, "its layers", len(b.State.Model.Layers), 1)
	first := b.State.Model.Layers[0]
	wantValue(t, "its kind of layer", first.Kind, impl.LayerDense)
	wantValue(t, "its input", first.In, 1)
	wantValue(t, "its output", first.Out, 1)
	wantNumbersOk(t, "its weight", first.Weights, true, []float32{0})
	wantNumbersOk(t, "its bias", first.Bias, true, []float32{0})
	wantValue(t, "its slots", len(b.State.Slots), 0)
	wantValue(t, "its Steps", b.State.Steps, 0)
	wantValue(t, "its seed", b.State.Seed, 0)
	wantNumber(t, "its Scale", b.State.Scale, 1)
	wantValue(t, "ValidLab of the new lab", impl.ValidLab(b), true)
	made, ok := impl.NewTraining(model(dense(1, 1, []float32{0}, []float32{0})), optimizer(impl.StepPlain, 0.5, 0, 0, 0), 0)
	wantStateOk(t, "its state", b.State, ok, made)
}

func TestValidLabs(t *testing.T) {
	c := chance(810)
	for name, b := range c.labs() {
		wantValue(t, "by the rule, "+name, isLabByRule(b), true)
		wantValue(t, "ValidLab of "+name, impl.ValidLab(b), true)
	}
	most := newLab()
	most.State = state(c.mostParams(), nil, impl.MaxSteps, impl.MaxSeed, nan)
	most.Data = examples(c.anyTensor(16, 16), c.anyTensor(16, 16))
	wantValue(t, "ValidLab of the most", impl.ValidLab(most), true)
	for _, x := range edges() {
		b := newLab()
		b.Optimizer = optimizer(impl.StepPlain, x, x, x, x)
		b.State.Scale = x
		wantValue(t, "ValidLab with any numbers", impl.ValidLab(b), true)
	}
}

// A lab is valid where its state is, for its optimiser, and its data are,
// whether these fit the model or not.
func TestValidLabsAreOfTheirParts(t *testing.T) {
	c := chance(811)
	labs := c.labs()
	for name, broken := range brokenLabs() {
		labs["broken: "+name] = broken
	}
	for name, b := range labs {
		want := impl.ValidExamples(b.Data) && impl.ValidTraining(b.Optimizer, b.State)
		wantValue(t, "ValidLab of "+name, impl.ValidLab(b), want)
		wantValue(t, "by the rule, "+name, isLabByRule(b), want)
	}
}

// No line makes something of a lab that is not valid, not even one that is
// none, or that replaces what is wrong.
func TestBrokenLabs(t *testing.T) {
	lines := []string{
		"", " ", "what", "steps", "params", "plan", "loss", "right", "run 3f800000", "round", "seed 1", "train 1 0", "train 1 1", "data 1 1 00000000 00000000",
		"first dense 1 1 00000000,00000000", "layer relu 1 none", "optimizer plain 3f000000 00000000 00000000 00000000",
	}
	for name, b := range brokenLabs() {
		wantValue(t, "ValidLab of "+name, impl.ValidLab(b), false)
		for _, line := range lines {
			got, output, ok := impl.LabCommand(b, line)
			wantFailed(t, "LabCommand of "+line+" at "+name, several{got, output}, ok)
			got, output, ok = impl.RunLab(b, line+"\n")
			wantFailed(t, "RunLab of "+line+" at "+name, several{got, output}, ok)
		}
		got, output, ok := impl.RunLab(b, "")
		wantFailed(t, "RunLab of no lines at "+name, several{got, output}, ok)
	}
}

// Lines that show nothing leave all of a valid lab as it is, also numbers
// that no command makes.
func TestLabsStayAsTheyAre(t *testing.T) {
	c := chance(812)
	for name, b := range c.labs() {
		for _, line := range []string{"", "fly", "seed -1", "steps", "params", "plan", "loss", "right", "run none"} {
			got, _, ok := impl.LabCommand(b, line)
			wantValue(t, "LabCommand of "+line+": success", ok, true)
			wantLab(t, name+" behind "+line, got, b)
		}
		wantRunOk(t, name+" behind no lines", b, "", b, "")
	}
}
