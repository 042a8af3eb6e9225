package tests

import (
	"fmt"
	"math"
	"slices"
	"testing"

	"loop.example/g01157/impl"
)

// wantPatch requires all functions with two states to do what the document
// says of two that fit.
func wantPatch(t *testing.T, what string, a, b impl.TrainState) {
	t.Helper()
	var indices []int64
	for _, c := range changedByRule(a, b) {
		indices = append(indices, c.index)
	}
	changed, ok := impl.ChangedNumbers(a, b)
	wantListOk(t, "ChangedNumbers of "+what, changed, ok, indices)
	want := patchByRule(a, b)
	patch, ok := impl.PatchOf(a, b)
	wantOk(t, "PatchOf "+what, patch, ok, want)
	back, ok := impl.ApplyPatch(a, want)
	wantStateOk(t, "ApplyPatch of "+what, back, ok, b)
	wantValue(t, "SameTraining of "+what, impl.SameTraining(b, back), true)
}

// wantPatches requires patches in both directions.
func wantPatches(t *testing.T, what string, a, b impl.TrainState) {
	t.Helper()
	wantPatch(t, what, a, b)
	wantPatch(t, what+" around", b, a)
}

// wantUnfit requires all functions with two states to refuse these.
func wantUnfit(t *testing.T, what string, a, b impl.TrainState) {
	t.Helper()
	for _, pair := range [][2]impl.TrainState{{a, b}, {b, a}} {
		changed, ok := impl.ChangedNumbers(pair[0], pair[1])
		wantListFailure(t, "ChangedNumbers of "+what, changed, ok)
		patch, ok := impl.PatchOf(pair[0], pair[1])
		wantFailure(t, "PatchOf "+what, patch, ok)
	}
}

// Bytes that are told have been made apart from this program, in another
// language.
func TestPatchesThatAreTold(t *testing.T) {
	told := toldStates()
	digits := "4e4e50311cdf44210200000001000000000080400300000000000041040000000000000007000000000000000000803f931c9358"
	patch, ok := impl.PatchOf(told[0], told[1])
	wantOk(t, "the hexadecimal digits of a patch", fmt.Sprintf("%x", patch), ok, digits)
	back, ok := impl.ApplyPatch(told[0], bytesOf(digits))
	wantStateOk(t, "ApplyPatch of told bytes", back, ok, told[1])
	changed, ok := impl.ChangedNumbers(told[0], told[1])
	wantListOk(t, "ChangedNumbers of told states", changed, ok, []int64{1, 3})
	list, ok := impl.AllNumbers(told[1])
	wantNumbersOk(t, "AllNumbers of a told state", list, ok, []float32{2, 4, 0.5, 8})
	wantPatches(t, "told states", told[0], told[1])
}

func TestAllNumbersAreInTheirOrder(t *testing.T) {
	m := model(layer(impl.LayerDense, 2, 1, []float32{1, 2}, []float32{3}), layer(impl.LayerRelu, 1, 1, nil, nil), layer(impl.LayerNorm, 1, 1, []float32{4}, []float32{5}))
	list, ok := impl.AllNumbers(state(m, [][]float32{{6, 7, 8, 9, 10}, {11, 12, 13, 14, minusZero}}, 1, 2, 3))
	wantNumbersOk(t, "AllNumbers", list, ok, []float32{1, 2, 3, 4, 5, 6, 7, 8, 9, 10, 11, 12, 13, 14, minusZero})
	list, ok = impl.AllNumbers(state(m, nil, 1, 2, 3))
	wantNumbersOk(t, "AllNumbers without slots", list, ok, []float32{1, 2, 3, 4, 5})
	none := model(layer(impl.LayerRelu, 3, 3, nil, nil))
	list, ok = impl.AllNumbers(state(none, [][]float32{nil, {}}, 1, 2, 3))
	wantNumbersOk(t, "AllNumbers without numbers", list, ok, nil)
}

// otherNumbers returns a copy of a with other numbers, sizes and all else as
// they are.
func otherNumbers(a impl.TrainState, list func(count int) []float32) impl.TrainState {
	b := copiedState(a)
	for _, place := range placesIn(&b) {
		*place = list(1)[0]
	}
	return b
}

func TestPatchesOfStates(t *testing.T) {
	c := chance(530)
	for name, a := range c.storables() {
		wantPatch(t, name+" and itself", a, a)
		wantPatch(t, name+" and a copy", a, copiedState(a))
		for _, list := range []func(int) []float32{c.smallList, c.anyList} {
			b := otherNumbers(a, list)
			b.Steps, b.Seed, b.Scale = int64(c.below(1001)), c.seed(), list(1)[0]
			wantPatches(t, name+" and other numbers", a, b)
		}
		b := copiedState(a)
		for _, place := range placesIn(&b) {
			if c.below(5) == 0 {
				*place = c.anyList(1)[0]
			}
		}
		wantPatches(t, name+" and a few other numbers", a, b)
	}
}

// The numbers of two states can be other ones in each place.
func TestPatchesOfOneNumber(t *testing.T) {
	c := chance(531)
	for name, a := range c.fewStorables() {
		for i, place := range placesIn(&a) {
			before := *place
			for _, pair := range [][2]float32{{1, 2}, {0, minusZero}, {minusZero, 0}, {nan, of(0xffc00001)}, {of(0x7f800001), nan}, {nan, infinity}, {infinity, -infinity}, {1, of(0x3f800001)}, {0, least}, {3, nan}} {
				*place = pair[0]
				b := copiedState(a)
				*placesIn(&b)[i] = pair[1]
				want := []int64{int64(i)}
				if isNan(pair[0]) && isNan(pair[1]) {
					want = nil
				}
				changed, ok := impl.ChangedNumbers(a, b)
				wantListOk(t, "ChangedNumbers of "+name, changed, ok, want)
				wantPatches(t, name+" and another number", a, b)
			}
			*place = before
		}
	}
}

func TestPatchesOfOtherFields(t *testing.T) {
	c := chance(532)
	for name, a := range c.fewStorables() {
		for _, steps := range []int64{0, 1, 500, impl.MaxSteps} {
			b := copiedState(a)
			b.Steps = steps
			wantPatches(t, name+" and other Steps", a, b)
		}
		for _, seed := range seeds() {
			b := copiedState(a)
			b.Seed = seed
			wantPatches(t, name+" and another Seed", a, b)
		}
		for _, scale := range edges() {
			b := copiedState(a)
			b.Scale = scale
			wantPatches(t, name+" and another Scale", a, b)
		}
	}
}

func TestPatchesOfAllNumbers(t *testing.T) {
	c := chance(533)
	a := c.storable(c.models()["the most"], impl.MaxSlots, c.smallList)
	b := otherNumbers(a, func(int) []float32 { return []float32{100} })
	changed, ok := impl.ChangedNumbers(a, b)
	wantOk(t, "the most changed numbers", len(changed), ok, 5*432)
	patch, ok := impl.PatchOf(a, b)
	wantOk(t, "the longest patch", len(patch), ok, 17316)
	wantPatches(t, "the most numbers", a, b)
	one := state(model(layer(impl.LayerScale, 1, 1, []float32{1}, nil)), nil, 0, 0, 1)
	other := state(model(layer(impl.LayerScale, 1, 1, []float32{2}, nil)), nil, 0, 0, 1)
	wantPatches(t, "one number alone", one, other)
	none := state(model(layer(impl.LayerRelu, 1, 1, nil, nil)), nil, 0, 0, 1)
	wantPatches(t, "no numbers", none, none)
}

func TestStatesThatDoNotFit(t *testing.T) {
	relu, tanh, scale := layer(impl.LayerRelu, 2, 2, nil, nil), layer(impl.LayerTanh, 2, 2, nil, nil), layer(impl.LayerScale, 2, 2, []float32{1, 2}, nil)
	wide, narrow := layer(impl.LayerRelu, 3, 3, nil, nil), layer(impl.LayerRelu, 1, 1, nil, nil)
	of := func(slots [][]float32, layers ...impl.Layer) impl.TrainState {
		return state(model(layers...), slots, 3, 7, 1)
	}
	for name, pair := range map[string][2]impl.TrainState{
		"a layer more":                {of(nil, relu), of(nil, relu, relu)},
		"another layer more":          {of(nil, scale), of(nil, scale, relu)},
		"the most layers and a less":  {of(nil, relu, relu, relu, relu, relu, relu), of(nil, relu, relu, relu, relu, relu)},
		"another kind":                {of(nil, relu), of(nil, tanh)},
		"another kind at the end":     {of(nil, relu, relu, relu), of(nil, relu, relu, tanh)},
		"kinds exchanged":             {of(nil, relu, scale), of(nil, scale, relu)},
		"another size":                {of(nil, relu), of(nil, wide)},
		"a size less":                 {of(nil, relu), of(nil, narrow)},
		"another Out":                 {of(nil, layer(0, 1, 2, filled(2, 1), filled(2, 1))), of(nil, layer(0, 1, 3, filled(3, 1), filled(3, 1)))},
		"another Out, as many":        {of(nil, layer(0, 2, 2, filled(4, 1), filled(2, 1))), of(nil, layer(0, 5, 1, filled(5, 1), filled(1, 1)))},
		"another In":                  {of(nil, layer(0, 2, 2, filled(4, 1), filled(2, 1))), of(nil, layer(0, 3, 2, filled(6, 1), filled(2, 1)))},
		"another kind, as many":       {of(nil, layer(0, 1, 1, filled(1, 1), filled(1, 1))), of(nil, layer(impl.LayerNorm, 1, 1, filled(1, 1), filled(1, 1)))},
		"a slot more":                 {of([][]float32{{1, 2}}, scale), of([][]float32{{1, 2}, {1, 2}}, scale)},
		"no slots":                    {of(nil, scale), of([][]float32{{1, 2}}, scale)},
		"the most slots and a less":   {of(slices.Repeat([][]float32{{1, 2}}, 4), scale), of(slices.Repeat([][]float32{{1, 2}}, 3), scale)},
		"a slot more without numbers": {of([][]float32{nil}, relu), of(nil, relu)},
		"a layer for a slot":          {of([][]float32{{1, 2}}, scale), of(nil, scale, scale)},
	} {
		for _, s := range pair {
			wantStored(t, name, s)
		}
		wantUnfit(t, name, pair[0], pair[1])
		for k, a := range pair {
			patch := sealed(openPatch(a, pair[1-k], placed{0, 9}))
			wantApplies(t, "the end of another form, "+name, a, patch)
		}
	}
}

func TestPatchesOfStatesThatAreNotStorable(t *testing.T) {
	c := chance(534)
	for name, valid := range c.fewStorables() {
		patch := patchByRule(valid, valid)
		for what, broken := range unstorables(valid) {
			wantUnfit(t, name+" with "+what, valid, broken)
			wantUnfit(t, name+" with "+what+" twice", broken, broken)
			got, ok := impl.ApplyPatch(broken, patch)
			wantFailed(t, "ApplyPatch for "+name+" with "+what, got, ok)
			got, ok = impl.ApplyPatch(broken, sealed(openPatch(broken, valid)))
			wantFailed(t, "ApplyPatch of its own for "+name+" with "+what, got, ok)
		}
		for what, broken := range brokenModels() {
			s := state(broken, nil, 3, 7, 1)
			wantUnfit(t, name+" and "+what, valid, s)
			wantUnfit(t, what, s, s)
			got, ok := impl.ApplyPatch(s, patch)
			wantFailed(t, "ApplyPatch for "+what, got, ok)
			got, ok = impl.ApplyPatch(s, sealed(openPatch(s, s)))
			wantFailed(t, "ApplyPatch of its own for "+what, got, ok)
		}
	}
	got, ok := impl.ApplyPatch(impl.TrainState{}, "")
	wantFailed(t, "ApplyPatch for the zero struct", got, ok)
}

// changedStates has for each of few states another one that fits, which
// differs in some numbers.
func (c *chance) changedStates() map[string][2]impl.TrainState {
	list := map[string][2]impl.TrainState{}
	for name, a := range c.fewStorables() {
		b := copiedState(a)
		for _, place := range placesIn(&b) {
			if c.below(3) == 0 {
				*place = c.anyList(1)[0]
			}
		}
		b.Steps, b.Scale = int64(c.below(1001)), c.small()
		list[name] = [2]impl.TrainState{a, b}
	}
	return list
}

func TestPatchesThatAreCut(t *testing.T) {
	c := chance(535)
	for name, pair := range c.changedStates() {
		patch := patchByRule(pair[0], pair[1])
		for length := range len(patch) {
			wantNoPatch(t, name+" that is cut", pair[0], patch[:length])
			wantNoPatch(t, name+" that is cut before", pair[0], patch[len(patch)-length:])
			if length < len(patch)-4 {
				wantNoPatch(t, name+" that is cut with a check", pair[0], sealed(patch[:length]))
			}
		}
		for _, end := range []string{"\x00", "\x00\x00\x00\x00", "a", "\xff\xff\xff\xff", patch, string(make([]byte, impl.MaxStored))} {
			wantNoPatch(t, name+" with bytes behind", pair[0], patch+end)
			wantNoPatch(t, name+" with bytes and a check behind", pair[0], sealed(patch+end))
			wantNoPatch(t, name+" with bytes before the check", pair[0], sealed(patch[:len(patch)-4]+end))
		}
		for _, mark := range []string{"NNP2", "NNP0", "nnp1", "NNT1", "\x00\x00\x00\x00", ""} {
			wantNoPatch(t, name+" with another beginning", pair[0], mark+patch[4:])
			wantNoPatch(t, name+" with another beginning and a check", pair[0], resealed(mark+patch[4:]))
		}
		wantNoPatch(t, name+" as a stored training", pair[0], storedByRule(pair[1]))
	}
}

func TestPatchesWithOneByteChanged(t *testing.T) {
	c := chance(536)
	for name, pair := range c.changedStates() {
		patch := patchByRule(pair[0], pair[1])
		for at := range len(patch) {
			for change := 1; change < 256; change++ {
				other := patch[:at] + string([]byte{patch[at] ^ byte(change)}) + patch[at+1:]
				got, ok := impl.ApplyPatch(pair[0], other)
				wantFailed(t, "ApplyPatch of "+name+" with a byte changed", got, ok)
				if at < len(patch)-4 && c.below(4) == 0 {
					wantApplies(t, name+" with a byte changed and a check", pair[0], resealed(other))
				}
			}
		}
	}
}

// The check of bytes that end with their own check is the same for all of
// them, so that the one of the state before tells nothing about it.
func TestStoredTrainingsHaveOneCheck(t *testing.T) {
	c := chance(540)
	for name, a := range c.storables() {
		stored, _ := impl.StoreTraining(a)
		check, ok := impl.CheckWord(stored)
		wantOk(t, "CheckWord of StoreTraining of "+name, check, ok, 558161692)
		patch, ok := impl.PatchOf(a, a)
		wantOk(t, "the check in a patch of "+name, patch[4:8], ok, wordBytes(check))
	}
}

// A patch for one state is also one for another that fits, just if it changes
// all numbers in this that it puts.
func TestPatchesForOtherStates(t *testing.T) {
	c := chance(537)
	for name, pair := range c.changedStates() {
		a, b := pair[0], pair[1]
		patch := patchByRule(a, b)
		others := placesIn(&b)
		changed := map[int]bool{}
		for _, change := range changedByRule(a, b) {
			changed[int(change.index)] = true
		}
		for i, number := range placesIn(&a) {
			before := *number
			for _, x := range []float32{c.small(), minusZero, nan, of(0xff800005), *others[i]} {
				*number = x
				wantApplies(t, name+" for another number", a, patch)
				_, ok := impl.ApplyPatch(a, patch)
				wantValue(t, "ApplyPatch of "+name+" for another number: success", ok, !changed[i] || !same(x, *others[i]))
			}
			*number = before
		}
		for _, change := range []func(other *impl.TrainState){
			func(other *impl.TrainState) { other.Steps ^= 1 },
			func(other *impl.TrainState) { other.Seed ^= 1 },
			func(other *impl.TrainState) { other.Scale++ },
		} {
			other := a
			change(&other)
			back, ok := impl.ApplyPatch(other, patch)
			wantStateOk(t, "ApplyPatch of "+name+" for other fields", back, ok, b)
		}
	}
	told := toldStates()
	wantNoPatch(t, "a told one for the state behind it", told[1], patchByRule(told[0], told[1]))
}

// Each other check of the state before is refused, with a check at the end
// that is right.
func TestPatchesWithAnotherCheckOfTheStateBefore(t *testing.T) {
	c := chance(541)
	for name, pair := range c.changedStates() {
		patch := patchByRule(pair[0], pair[1])
		stored := storedByRule(pair[0])
		for _, check := range []string{stored[len(stored)-4:], "\x00\x00\x00\x00", "\xff\xff\xff\xff", "\x1d\xdf\x44\x21", "\x21\x44\xdf\x1c", patch[len(patch)-4:]} {
			wantNoPatch(t, name+" with another check", pair[0], resealed(patch[:4]+check+patch[8:]))
		}
	}
}

func TestPatchesWithOtherIndices(t *testing.T) {
	told := toldStates()
	a, b := told[0], told[1]
	for name, c := range map[string]struct {
		changes []placed
		isPatch bool
	}{
		"the told ones":              {[]placed{{1, 4}, {3, 8}}, true},
		"one of them":                {[]placed{{3, 8}}, true},
		"none":                       {nil, true},
		"all":                        {[]placed{{0, 1}, {1, 2}, {2, 3}, {3, 4}}, true},
		"descending ones":            {[]placed{{3, 8}, {1, 4}}, false},
		"the last two exchanged":     {[]placed{{0, 1}, {3, 8}, {1, 4}}, false},
		"one twice":                  {[]placed{{1, 4}, {1, 4}, {3, 8}}, false},
		"one twice with others":      {[]placed{{1, 5}, {1, 4}, {3, 8}}, false},
		"the last twice":             {[]placed{{1, 4}, {3, 8}, {3, 8}}, false},
		"one twice, and as before":   {[]placed{{1, 4}, {1, 1}}, false},
		"one behind the last":        {[]placed{{1, 4}, {4, 8}}, false},
		"one behind the last alone":  {[]placed{{4, 8}}, false},
		"the greatest":               {[]placed{{1, 4}, {4294967295, 8}}, false},
		"2 to the power of 31":       {[]placed{{1 << 31, 8}}, false},
		"256":                        {[]placed{{256, 8}}, false},
		"a number not changed":       {[]placed{{1, 1}, {3, 8}}, false},
		"the last not changed":       {[]placed{{1, 4}, {3, -0.5}}, false},
		"a number that is not there": {[]placed{{0, nan}, {1, infinity}}, true},
	} {
		patch := sealed(openPatch(a, b, c.changes...))
		_, ok := applyByRule(a, patch)
		wantValue(t, "by the rule, "+name, ok, c.isPatch)
		wantApplies(t, "a patch with indices: "+name, a, patch)
	}
	zeros := copiedState(a)
	zeros.Slots[0] = []float32{minusZero, of(0xffffffff)}
	wantNoPatch(t, "the same zero", zeros, sealed(openPatch(zeros, b, placed{2, minusZero})))
	wantNoPatch(t, "a not-a-number again", zeros, sealed(openPatch(zeros, b, placed{3, nan})))
	wantApplies(t, "the other zero", zeros, sealed(openPatch(zeros, b, placed{2, 0})))
}

// The number of changed indices is a word, of which a patch has less room.
func TestPatchesWithOtherCounts(t *testing.T) {
	told := toldStates()
	patch := patchByRule(told[0], told[1])
	for _, count := range []int64{0, 1, 3, 4, 5, 256, 258, 1 << 24, 1<<31 + 2, 1<<32 - 1} {
		wantNoPatch(t, "another number of indices", told[0], resealed(patch[:8]+wordBytes(count)+patch[12:]))
		long := patch[:8] + wordBytes(count) + patch[12:48] + string(make([]byte, impl.MaxStored-52))
		wantNoPatch(t, "another number of indices in many bytes", told[0], sealed(long))
	}
}

func TestPatchesWithFieldsOfNoState(t *testing.T) {
	c := chance(538)
	for name, pair := range c.changedStates() {
		a := pair[0]
		for _, steps := range otherStepCounts() {
			b := copiedState(pair[1])
			b.Steps = steps
			wantNoPatch(t, name+" with other Steps", a, patchByRule(a, b))
		}
		for _, seed := range append(otherSeeds(), math.MinInt64+7, 1<<56+7) {
			b := copiedState(pair[1])
			b.Seed = seed
			wantNoPatch(t, name+" with another Seed", a, patchByRule(a, b))
		}
		patch := patchByRule(a, pair[1])
		ends := []int{len(patch) - 8}
		for k := range changedByRule(a, pair[1]) {
			ends = append(ends, 16+8*k)
		}
		for _, at := range ends {
			for _, bits := range []int64{0x7fc00001, 0xffc00000, 0x7f800001, 0xffffffff, 0x7f810000} {
				wantNoPatch(t, name+" with another not-a-number", a, resealed(patch[:at]+wordBytes(bits)+patch[at+4:]))
			}
			wantApplies(t, name+" with a not-a-number", a, resealed(patch[:at]+wordBytes(0x7fc00000)+patch[at+4:]))
		}
	}
}

// Bytes of any kind, most of which begin as patches do, are applied just if
// they are a patch.
func TestAnyBytesAreAppliedByTheRule(t *testing.T) {
	c := chance(539)
	for _, pair := range c.changedStates() {
		patch := []byte(patchByRule(pair[0], pair[1]))
		for range 2000 {
			other := slices.Clone(patch)
			for range 1 + c.below(3) {
				other[8+c.below(len(other)-8)] = byte(c.below(9))
			}
			wantApplies(t, "bytes that are changed", pair[0], string(other))
			wantApplies(t, "bytes that are changed with a check", pair[0], resealed(string(other)))
		}
		for length := range 100 {
			wantApplies(t, "any bytes", pair[0], c.anyText(length))
			wantApplies(t, "any bytes with a check", pair[0], sealed(string(patch[:8])+c.anyText(length)))
		}
		for _, length := range []int{impl.MaxStored, impl.MaxStored + 1, 1 << 17} {
			wantNoPatch(t, "many bytes", pair[0], c.anyText(length))
		}
	}
}
