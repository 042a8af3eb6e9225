package tests

import (
	"fmt"
	"slices"
	"testing"

	"loop.example/g01157/impl"
)

func TestExamplesOfChapter8(t *testing.T) {
	check, ok := impl.CheckWord("123456789")
	wantOk(t, "the check of 123456789", check, ok, 3421780262)
	text, ok := impl.NumbersBytes([]float32{1, -2})
	wantOk(t, "the bytes of 1 and -2", text, ok, string([]byte{0, 0, 128, 63, 0, 0, 0, 192}))
	list, ok := impl.BytesNumbers(text)
	wantNumbersOk(t, "the numbers of these bytes", list, ok, []float32{1, -2})
}

// stored returns the state that comes back from the stored bytes of s.
func stored(t *testing.T, s impl.TrainState) impl.TrainState {
	t.Helper()
	text, ok := impl.StoreTraining(s)
	wantValue(t, "StoreTraining: success", ok, true)
	back, ok := impl.LoadTraining(text)
	wantValue(t, "LoadTraining: success", ok, true)
	return back
}

// wantResumed requires a training that is stored, loaded and goes on to be
// the one that has not been interrupted.
func (a trainArguments) wantResumed(t *testing.T, what string, first, second int64) {
	t.Helper()
	want, wantLosses, ok := a.train(first + second)
	wantValue(t, what+" at once: success", ok, true)
	a.state = stored(t, a.state)
	between, losses, ok := a.train(first)
	wantValue(t, what+" in its first part: success", ok, true)
	a.state = stored(t, between)
	wantValue(t, what+" is valid behind a checkpoint", impl.ValidTraining(a.optimizer, a.state), true)
	got, others, ok := a.train(second)
	wantStateOk(t, what+" that is resumed", got, ok, want)
	wantNumbersOk(t, what+" that is resumed: losses", append(losses, others...), ok, wantLosses)
	wantValue(t, what+" that is resumed is the same", impl.SameTraining(got, want), true)
}

func TestTrainingsAreResumed(t *testing.T) {
	c := chance(560)
	for name, arguments := range c.trainings() {
		first := int64(c.below(8))
		arguments.wantResumed(t, name, first, int64(c.below(8)))
		arguments.wantResumed(t, name+" from no steps", 0, first)
		arguments.wantResumed(t, name+" with no steps behind", first, 0)
	}
	for _, kind := range allStepKinds() {
		for first := int64(0); first <= impl.MaxOnce; first++ {
			toldTraining(kind).wantResumed(t, "a told training", first, impl.MaxOnce-first)
		}
	}
}

// A training of MaxSteps steps is the same one with a checkpoint behind each
// step, and with patches from each step to the next one.
func TestTrainingsWithManyCheckpoints(t *testing.T) {
	for _, kind := range allStepKinds() {
		told := toldTraining(kind)
		want, _ := told.inParts(t, func() int64 { return impl.MaxOnce })
		loaded, patched := told, told
		for range impl.MaxSteps {
			next, _, _ := loaded.train(1)
			loaded.state = stored(t, next)
			next, _, _ = patched.train(1)
			patch, ok := impl.PatchOf(patched.state, next)
			wantValue(t, "PatchOf a step: success", ok, true)
			patched.state, ok = impl.ApplyPatch(patched.state, patch)
			wantValue(t, "ApplyPatch of a step: success", ok, true)
		}
		wantStateOk(t, "a checkpoint behind each step", loaded.state, true, want)
		wantStateOk(t, "a patch for each step", patched.state, true, want)
	}
}

// A training goes on from what is left of its archive.
func TestTrainingsAreResumedFromArchives(t *testing.T) {
	c := chance(561)
	for _, kind := range allStepKinds() {
		told := toldTraining(kind)
		want, _, _ := told.train(impl.MaxOnce)
		var texts []string
		next := told
		for range impl.MaxArchive {
			text, _ := impl.StoreTraining(next.state)
			texts = append(texts, text)
			next.state, _, _ = next.train(4)
		}
		archive, ok := impl.ArchiveOf(texts)
		wantValue(t, "ArchiveOf a training: success", ok, true)
		for length := len(archive); length > 4+len(texts[0]); length -= 1 + c.below(9) {
			found, index, ok := impl.LastIntact(archive[:length])
			wantOk(t, "the Steps of what is left", found.Steps, ok, 4*index)
			left := told
			left.state = found
			got, _, ok := left.train(impl.MaxOnce - found.Steps)
			wantStateOk(t, "a training from what is left", got, ok, want)
		}
	}
}

// storedArguments are what the functions of chapter 8 take.
type storedArguments struct {
	a, b  impl.TrainState
	text  string
	texts []string
	list  []float32
}

type storedCall func(s storedArguments) (several, bool)

// storedCalls has the functions of chapter 8.
func storedCalls() map[string]storedCall {
	one := func(result any, ok bool) (several, bool) { return several{result}, ok }
	return map[string]storedCall{
		"IsStorable":     func(s storedArguments) (several, bool) { return one(impl.IsStorable(s.a), true) },
		"CheckWord":      func(s storedArguments) (several, bool) { return one(first(impl.CheckWord(s.text))) },
		"NumbersBytes":   func(s storedArguments) (several, bool) { return one(first(impl.NumbersBytes(s.list))) },
		"BytesNumbers":   func(s storedArguments) (several, bool) { return one(first(impl.BytesNumbers(s.text))) },
		"StoredSize":     func(s storedArguments) (several, bool) { return one(first(impl.StoredSize(s.a))) },
		"StoreTraining":  func(s storedArguments) (several, bool) { return one(first(impl.StoreTraining(s.a))) },
		"LoadTraining":   func(s storedArguments) (several, bool) { return one(first(impl.LoadTraining(s.text))) },
		"AllNumbers":     func(s storedArguments) (several, bool) { return one(first(impl.AllNumbers(s.a))) },
		"ChangedNumbers": func(s storedArguments) (several, bool) { return one(first(impl.ChangedNumbers(s.a, s.b))) },
		"PatchOf":        func(s storedArguments) (several, bool) { return one(first(impl.PatchOf(s.a, s.b))) },
		"ApplyPatch":     func(s storedArguments) (several, bool) { return one(first(impl.ApplyPatch(s.a, s.text))) },
		"ArchiveOf":      func(s storedArguments) (several, bool) { return one(first(impl.ArchiveOf(s.texts))) },
		"EntriesOf":      func(s storedArguments) (several, bool) { return one(first(impl.EntriesOf(s.text))) },
		"LastIntact":     func(s storedArguments) (several, bool) { return pair(impl.LastIntact(s.text)) },
	}
}

func roomyState(s impl.TrainState) impl.TrainState {
	s.Model, s.Slots = roomyModel(s.Model), roomySlots(s.Slots)
	return s
}

// roomyStored returns a copy of s with unused capacity everywhere.
func roomyStored(s storedArguments) storedArguments {
	s.a, s.b = roomyState(s.a), roomyState(s.b)
	texts := append(slices.Clone(s.texts), "unused", "capacity")
	s.texts, s.list = texts[:len(s.texts)], roomyList(s.list)
	return s
}

// rawStored shows all of s, with its unused capacity.
func rawStored(s storedArguments) string {
	states := rawTraining(trainArguments{state: s.a}) + rawTraining(trainArguments{state: s.b})
	return states + textOfResult(s.texts[:cap(s.texts)], rawBits(s.list))
}

// someStored has arguments with which all functions succeed, and others.
func (c *chance) someStored() map[string]storedArguments {
	list := map[string]storedArguments{}
	for name, pair := range c.changedStates() {
		a, b := pair[0], pair[1]
		texts := []string{storedByRule(a), storedByRule(b), patchByRule(a, b), ""}
		valid := storedArguments{a, b, "", texts, numbersByRule(a)}
		for what, text := range map[string]string{
			"no text": "", "a stored text": texts[0], "a patch": texts[2], "an archive": archiveByRule(texts...), "numbers": bytesByRule(valid.list...),
			"a cut text": texts[0][:20], "a cut patch": texts[2][:20], "a cut archive": archiveByRule(texts...)[:60], "any text": c.anyText(50),
		} {
			valid.text = text
			list[name+" and "+what] = valid
		}
		around := valid
		around.a, around.b = b, a
		list[name+" around"] = around
		twice := valid
		twice.b = twice.a
		list[name+" twice"] = twice
		for what, broken := range unstorables(a) {
			other := valid
			other.a = broken
			list[name+" with "+what] = other
			other.a, other.b = valid.a, broken
			list[name+" behind with "+what] = other
		}
	}
	told := toldStates()
	for what, broken := range brokenModels() {
		list["broken: "+what] = storedArguments{a: state(broken, nil, 3, 7, 1), b: told[0], texts: make([]string, 9), list: filled(mostListed+1, 1)}
	}
	shared := c.smallLayer(impl.LayerScale, 2, 2)
	one := model(shared, shared, layer(impl.LayerDense, 2, 1, shared.Weights, shared.Weights[:1]))
	slot := c.smallList(7)
	list["one list in several places"] = storedArguments{a: state(one, [][]float32{slot, slot}, 3, 7, 1), b: state(one, [][]float32{slot, slot}, 3, 7, 2), list: slot}
	return list
}

func TestArgumentsOfCheckpointsAreNotChanged(t *testing.T) {
	c := chance(562)
	for name, tight := range c.someStored() {
		arguments := roomyStored(tight)
		before, beforeTight := rawStored(arguments), rawStored(tight)
		for function, call := range storedCalls() {
			checkCall(t, function+" of "+name, func() (several, bool) { return call(arguments) })
			checkCall(t, function+" of "+name, func() (several, bool) { return call(tight) })
			got, ok := call(arguments)
			want, wantOk := call(tight)
			wantValue(t, function+" with unused capacity of "+name, textOfResult(got, ok), textOfResult(want, wantOk))
		}
		wantValue(t, "the arguments of "+name, rawStored(arguments), before)
		wantValue(t, "the arguments without capacity of "+name, rawStored(tight), beforeTight)
	}
}

func TestSlicesOfCheckpointsAreApart(t *testing.T) {
	c := chance(563)
	for name, pair := range c.changedStates() {
		a, b := roomyState(pair[0]), roomyState(pair[1])
		patch := patchByRule(a, b)
		loaded, ok := impl.LoadTraining(storedByRule(a))
		wantValue(t, "LoadTraining of "+name, ok, true)
		patched, ok := impl.ApplyPatch(a, patch)
		wantValue(t, "ApplyPatch of "+name, ok, true)
		unchanged, ok := impl.ApplyPatch(a, patchByRule(a, a))
		wantValue(t, "ApplyPatch of nothing to "+name, ok, true)
		last, _, ok := impl.LastIntact(archiveByRule(storedByRule(b)))
		wantValue(t, "LastIntact of "+name, ok, true)
		all, ok := impl.AllNumbers(a)
		wantValue(t, "AllNumbers of "+name, ok, true)
		list, ok := impl.BytesNumbers(bytesByRule(all...))
		wantValue(t, "BytesNumbers of "+name, ok, true)
		parts := [][]float32{all, list}
		before := textOfResult(a, b)
		for _, made := range []impl.TrainState{loaded, patched, unchanged, last, a, b} {
			parts = append(parts, listsOf(made)...)
		}
		wantApart(t, "checkpoints of "+name, parts)
		a, b = roomyState(pair[0]), roomyState(pair[1])
		patched, _ = impl.ApplyPatch(a, patch)
		clear(patched.Model.Layers[:cap(patched.Model.Layers)])
		clear(patched.Slots[:cap(patched.Slots)])
		wantValue(t, "the states of "+name, textOfResult(a, b), before)
	}
}

// Each of two lists of changed numbers is a new one, as are those of entries.
func TestListsOfCheckpointsAreApart(t *testing.T) {
	told := toldStates()
	first, _ := impl.ChangedNumbers(told[0], told[1])
	second, _ := impl.ChangedNumbers(told[0], told[1])
	wantApart(t, "changed numbers", [][]int64{first, second})
	texts := []string{"a", "b", "c"}
	archive, _ := impl.ArchiveOf(texts)
	entries, _ := impl.EntriesOf(archive)
	again, _ := impl.EntriesOf(archive)
	clear(entries[:cap(entries)])
	wantListOk(t, "entries", again, true, texts)
	clear(again[:cap(again)])
	wantListOk(t, "the texts of an archive", texts, true, []string{"a", "b", "c"})
}

// All not-a-numbers are one value, so that states with other bits of them
// have equal results.
func TestOtherBitsOfNotANumbersChangeNoResult(t *testing.T) {
	c := chance(564)
	with := func(s impl.TrainState, bits uint32) impl.TrainState {
		s = copiedState(s)
		for _, place := range numbersIn(&s) {
			if isNan(*place) {
				*place = of(bits)
			}
		}
		return s
	}
	for name, a := range c.storables() {
		b := otherNumbers(a, c.mixedList)
		patch := patchByRule(a, b)
		for function, call := range storedCalls() {
			for _, text := range []string{patch, storedByRule(a)} {
				want, wantOk := call(storedArguments{a: a, b: b, text: text, list: numbersByRule(a)})
				for _, bits := range []uint32{0xffc00000, 0x7f800001, 0xffffffff} {
					a, b := with(a, bits), with(b, bits)
					got, ok := call(storedArguments{a: a, b: b, text: text, list: numbersByRule(a)})
					wantValue(t, function+" with other bits of "+name, textOfResult(got, ok), textOfResult(want, wantOk))
				}
			}
		}
	}
}

func TestEachFunctionOfCheckpointsReturnsTheSameForAllIntegers(t *testing.T) {
	integers := append(anyIntegers(), 3, 4, 5, 6, 7, 8, 9, 999, 1000, 1001, -2, impl.MaxSeed, impl.MaxSeed+1)
	told := toldStates()
	for _, n := range integers {
		for _, m := range integers {
			fields := told[0]
			fields.Steps, fields.Seed = n, m
			kinds := told[0]
			kinds.Model = model(layer(n, m, m, nil, nil))
			sizes := told[0]
			sizes.Model = model(layer(0, n, m, []float32{2}, []float32{1}))
			text := "NNT1\x01\x00\x01\x01" + wordBytes(n) + wordBytes(m) + "\x00" + longBytes(n) + longBytes(m) + wordBytes(n)
			patch := "NNP1" + wordBytes(558161692) + wordBytes(n) + wordBytes(m) + wordBytes(n) + longBytes(m) + longBytes(n) + wordBytes(m)
			for name, call := range storedCalls() {
				for i, arguments := range []storedArguments{
					{a: fields, b: told[0], text: sealed(text)}, {a: told[0], b: fields, text: sealed(patch)}, {a: kinds, b: kinds, text: text},
					{a: sizes, b: sizes, text: wordBytes(n) + wordBytes(m)}, {a: told[1], b: told[1], text: sealed(patch)},
				} {
					checkCall(t, fmt.Sprintf("%s %d of %d and %d", name, i, n, m), func() (several, bool) { return call(arguments) })
				}
			}
		}
	}
}

func TestEachFunctionOfCheckpointsReturnsTheSameForAllTexts(t *testing.T) {
	c := chance(565)
	told := toldStates()
	texts := append(anyTexts(), "NNT1", "NNP1", "NNT1\xff", "NNT1\x06\x00\xff\xff", "\xff\xff\xff\xff", "\x00\x00\x00\x80", c.anyText(1<<17), string(make([]byte, mostArchived)), string(make([]byte, mostArchived+1)))
	for _, text := range texts {
		for _, text := range []string{text, sealed(text), sealed("NNT1" + text), sealed("NNP1" + text)} {
			for name, call := range storedCalls() {
				arguments := storedArguments{a: told[0], b: told[1], text: text, texts: []string{text, "", text}}
				checkCall(t, name, func() (several, bool) { return call(arguments) })
			}
		}
	}
}

func TestEachFunctionOfCheckpointsReturnsTheSameForAllNumbers(t *testing.T) {
	for _, x := range edges() {
		for _, y := range edges() {
			a, b := toldStates()[0], toldStates()[1]
			a.Model.Layers[0].Weights[0], a.Slots[0][1], a.Scale = x, y, x
			b.Model.Layers[0].Weights[0], b.Slots[0][1], b.Scale = y, x, y
			for name, call := range storedCalls() {
				for _, text := range []string{storedByRule(a), patchByRule(a, b), sealed(openPatch(a, b, placed{0, x}, placed{3, y})), rawBytes(x, y)} {
					checkCall(t, name, func() (several, bool) { return call(storedArguments{a: a, b: b, text: text, list: []float32{x, y}}) })
				}
			}
		}
	}
}
