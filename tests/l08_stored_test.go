package tests

import (
	"fmt"
	"math"
	"slices"
	"strings"
	"testing"

	"loop.example/g01157/impl"
)

// wantStored requires all functions that store or load a state to do what the
// document says.
func wantStored(t *testing.T, what string, s impl.TrainState) {
	t.Helper()
	wantValue(t, "IsStorable of "+what, impl.IsStorable(s), true)
	want := storedByRule(s)
	stored, ok := impl.StoreTraining(s)
	wantOk(t, "StoreTraining of "+what, stored, ok, want)
	size, ok := impl.StoredSize(s)
	wantOk(t, "StoredSize of "+what, size, ok, int64(len(want)))
	back, ok := impl.LoadTraining(want)
	wantStateOk(t, "LoadTraining of "+what, back, ok, s)
	wantValue(t, "SameTraining of "+what, impl.SameTraining(s, back), true)
	list, ok := impl.AllNumbers(s)
	wantNumbersOk(t, "AllNumbers of "+what, list, ok, numbersByRule(s))
}

// wantUnstorable requires all functions with one state to refuse s.
func wantUnstorable(t *testing.T, what string, s impl.TrainState) {
	t.Helper()
	wantValue(t, "IsStorable of "+what, impl.IsStorable(s), false)
	stored, ok := impl.StoreTraining(s)
	wantFailure(t, "StoreTraining of "+what, stored, ok)
	size, ok := impl.StoredSize(s)
	wantFailure(t, "StoredSize of "+what, size, ok)
	list, ok := impl.AllNumbers(s)
	wantListFailure(t, "AllNumbers of "+what, list, ok)
}

// Bytes that are told have been made apart from this program, in another
// language.
func TestStoredBytesThatAreTold(t *testing.T) {
	told := toldStates()
	net := model(layer(impl.LayerDense, 2, 1, []float32{0.1, minusZero}, []float32{infinity}), layer(impl.LayerRelu, 1, 1, nil, nil),
		layer(impl.LayerScale, 1, 1, []float32{-1.5}, nil), layer(impl.LayerNorm, 1, 1, []float32{3.25}, []float32{least}))
	for digits, s := range map[string]impl.TrainState{
		"4e4e543101000101000000400000803f010000003f000000bf030000000000000007000000000000000000803f00ceb5a0": told[0],
		"4e4e5431010001010000004000008040010000003f00000041040000000000000007000000000000000000803f3386e18c": told[1],
		"4e4e543104000201cdcccc3d000000800000807f0101010201010000c0bf0501010000504001000000020000803f0000004000004040000080400000a040" +
			"0000c0400000003f0000803e000000be9976967eeee36c800000e040e803000000000000ffffff7f0000000000000080de76081d": state(net,
			[][]float32{{1, 2, 3, 4, 5, 6}, {0.5, 0.25, -0.125, 1e38, -1e-38, 7}}, impl.MaxSteps, impl.MaxSeed, minusZero),
		"4e4e54310101080800000000000000000000000000000000000000000078f96ce5":                 state(model(layer(impl.LayerRelu, 8, 8, nil, nil)), nil, 0, 0, 0),
		"4e4e5431010201010000c07f010000c07f000000000000000000000000000000000000c07f276b30df": state(model(layer(impl.LayerScale, 1, 1, []float32{of(0xff800001)}, nil)), [][]float32{{of(0xffc00000)}}, 0, 0, of(0x7fffffff)),
	} {
		stored, ok := impl.StoreTraining(s)
		wantOk(t, "the hexadecimal digits of stored bytes", fmt.Sprintf("%x", stored), ok, digits)
		back, ok := impl.LoadTraining(bytesOf(digits))
		wantStateOk(t, "LoadTraining of told bytes", back, ok, s)
		wantStored(t, "a told state", s)
	}
}

func TestStatesAreStored(t *testing.T) {
	c := chance(510)
	for name, s := range c.storables() {
		wantStored(t, name, s)
	}
	for name, s := range c.fewStorables() {
		wantStored(t, name, s)
	}
}

func TestStatesWithOtherFieldsAreStored(t *testing.T) {
	c := chance(511)
	for name, valid := range c.fewStorables() {
		for _, steps := range []int64{0, 1, 255, 256, 257, impl.MaxSteps - 1, impl.MaxSteps} {
			s := valid
			s.Steps = steps
			wantStored(t, name+" with Steps", s)
		}
		for _, seed := range seeds() {
			s := valid
			s.Seed = seed
			wantStored(t, name+" with a seed", s)
		}
		for _, scale := range edges() {
			s := valid
			s.Scale = scale
			wantStored(t, name+" with a Scale", s)
		}
	}
}

// The most numbers that a state can have are those of six layers and of four
// slots, which is more than an optimiser takes.
func TestTheMostNumbersAreStored(t *testing.T) {
	c := chance(512)
	most := c.storable(c.models()["the most"], impl.MaxSlots, c.anyList)
	wantValue(t, "the most numbers", len(numbersByRule(most)), 5*432)
	size, ok := impl.StoredSize(most)
	wantOk(t, "the most bytes", size, ok, 8688)
	wantStored(t, "the most numbers", most)
	wantStored(t, "MaxNumbers parameters", c.storable(c.mostParams(), 2, c.mixedList))
	wantStored(t, "one parameter more", c.storable(c.oneMoreParam(), 2, c.mixedList))
}

// Which optimiser a state belongs to is not stored: all numbers of slots that
// there is room for are storable.
func TestSlotsWithoutNumbersAreStored(t *testing.T) {
	none := model(layer(impl.LayerRelu, 3, 3, nil, nil), layer(impl.LayerTanh, 3, 3, nil, nil))
	for _, slots := range [][][]float32{nil, {}, {nil}, {{}}, {nil, {}}, {{}, nil, {}}, {nil, nil, nil, nil}} {
		wantStored(t, "slots without numbers", state(none, slots, 5, 7, nan))
	}
	wantUnstorable(t, "too many slots without numbers", state(none, [][]float32{nil, nil, nil, nil, nil}, 5, 7, 1))
	// The byte with their number would be 0 or 1.
	wantUnstorable(t, "256 slots without numbers", state(none, make([][]float32, 256), 5, 7, 1))
	wantUnstorable(t, "257 slots without numbers", state(none, make([][]float32, 257), 5, 7, 1))
	wantUnstorable(t, "a slot with a number", state(none, [][]float32{nil, {1}}, 5, 7, 1))
	one := model(layer(impl.LayerScale, 1, 1, []float32{3}, nil))
	wantStored(t, "a slot of one number", state(one, [][]float32{{1}}, 5, 7, 1))
	for _, slots := range [][][]float32{{nil}, {{}}, {{1}, nil}, {{1, 2}}, {{1}, {1, 2}}, {{1}, {1}, {1}, {1}, {1}}} {
		wantUnstorable(t, "slots that do not fit", state(one, slots, 5, 7, 1))
	}
}

func TestStatesThatAreNotStorable(t *testing.T) {
	c := chance(513)
	wantUnstorable(t, "the zero struct", impl.TrainState{})
	for name, valid := range c.fewStorables() {
		for what, broken := range unstorables(valid) {
			wantUnstorable(t, name+" with "+what, broken)
		}
	}
	valid := c.storable(c.models()["the most"], 1, c.smallList)
	for what, broken := range unstorables(valid) {
		wantUnstorable(t, "the most numbers with "+what, broken)
	}
	for name, broken := range brokenModels() {
		for slots := range impl.MaxSlots + 1 {
			for _, count := range []int{0, 1, len(paramsByRule(broken))} {
				wantUnstorable(t, name, state(broken, slices.Repeat([][]float32{filled(count, 0)}, slots), 0, 0, 1))
			}
		}
	}
}

// Not-a-numbers with other bits are stored as one value, in all places.
func TestNotANumbersAreStoredAsOne(t *testing.T) {
	c := chance(514)
	for name, s := range c.fewStorables() {
		for _, place := range numbersIn(&s) {
			before := *place
			*place = nan
			want, ok := impl.StoreTraining(s)
			wantValue(t, "StoreTraining of "+name, ok, true)
			for _, bits := range []uint32{0xffc00000, 0x7f800001, 0xffffffff, 0x7fc00001} {
				*place = of(bits)
				stored, ok := impl.StoreTraining(s)
				wantOk(t, "StoreTraining of "+name+" with other bits", stored, ok, want)
				wantStored(t, name+" with other bits", s)
			}
			*place = before
		}
	}
}

// numberStarts has where the words of the numbers begin in the stored bytes
// of s, with that of Scale.
func numberStarts(s impl.TrainState) []int {
	var starts []int
	at := 5
	next := func(count int) {
		for range count {
			starts = append(starts, at)
			at += 4
		}
	}
	for _, l := range s.Model.Layers {
		at += 3
		next(len(l.Weights) + len(l.Bias))
	}
	at++
	for _, slot := range s.Slots {
		next(len(slot))
	}
	at += 16
	next(1)
	return starts
}

// Stored bytes have the bits of a not-a-number that BitsOf returns, also if
// the check is right for others.
func TestStoredNotANumbersWithOtherBits(t *testing.T) {
	c := chance(515)
	for name, s := range c.fewStorables() {
		stored := storedByRule(s)
		for _, at := range numberStarts(s) {
			for _, bits := range []int64{0x7fc00001, 0xffc00000, 0x7f800001, 0xffffffff, 0x7fffffff, 0x7f810000} {
				wantRefused(t, name+" with another not-a-number", resealed(stored[:at]+wordBytes(bits)+stored[at+4:]))
			}
			for _, bits := range []int64{0x7fc00000, 0x7f800000, 0xff800000, 0x80000000} {
				other := resealed(stored[:at] + wordBytes(bits) + stored[at+4:])
				got, ok := impl.LoadTraining(other)
				wantValue(t, "LoadTraining of "+name+" with another number: success", ok, true)
				wantValue(t, "StoreTraining of "+name+" with another number", storedByRule(got), other)
			}
		}
	}
}

func TestStoredBytesThatAreCut(t *testing.T) {
	c := chance(516)
	for name, s := range c.fewStorables() {
		stored := storedByRule(s)
		for length := range len(stored) {
			wantRefused(t, name+" that is cut", stored[:length])
			wantRefused(t, name+" that is cut before", stored[len(stored)-length:])
			if length < len(stored)-4 {
				wantRefused(t, name+" that is cut with a check", sealed(stored[:length]))
			}
		}
	}
	most := storedByRule(c.storable(c.models()["the most"], impl.MaxSlots, c.smallList))
	for length := 0; length < len(most); length += 1 + c.below(40) {
		wantRefused(t, "the most bytes that are cut", most[:length])
		wantRefused(t, "the most bytes that are cut with a check", sealed(most[:min(length, len(most)-5)]))
	}
}

func TestStoredBytesWithOthersBehind(t *testing.T) {
	c := chance(517)
	for name, s := range c.fewStorables() {
		stored := storedByRule(s)
		for _, end := range []string{"\x00", "\x00\x00\x00\x00", "a", "\xff\xff\xff\xff", stored, string(make([]byte, 12000)), string(make([]byte, impl.MaxStored))} {
			wantRefused(t, name+" with bytes behind", stored+end)
			wantRefused(t, name+" with bytes and a check behind", sealed(stored+end))
			wantRefused(t, name+" with bytes before the check", sealed(stored[:len(stored)-4]+end))
			wantRefused(t, name+" with bytes before", end+stored)
		}
	}
}

func TestStoredBytesWithAnotherBeginning(t *testing.T) {
	c := chance(518)
	for name, s := range c.fewStorables() {
		stored := storedByRule(s)
		for _, mark := range []string{"NNT2", "NNT0", "nnt1", "NNP1", "MNT1", "NMT1", "1TNN", "\x00\x00\x00\x00", "    ", ""} {
			wantRefused(t, name+" with another beginning", mark+stored[4:])
			wantRefused(t, name+" with another beginning and a check", resealed(mark+stored[4:]))
		}
	}
	for _, text := range []string{"", "N", "NNT", "NNT1", "NNT1\x00", "NNT1\x01", sealed(""), sealed("NNT1"), sealed("NNT1\x00"), strings.Repeat("NNT1", 5), string(make([]byte, 49))} {
		wantRefused(t, "a beginning alone", text)
	}
}

// A byte that is changed is refused by its check, whatever it is.
func TestStoredBytesWithOneChanged(t *testing.T) {
	c := chance(519)
	for name, s := range c.fewStorables() {
		stored := storedByRule(s)
		for at := range len(stored) {
			for change := 1; change < 256; change++ {
				other := stored[:at] + string([]byte{stored[at] ^ byte(change)}) + stored[at+1:]
				got, ok := impl.LoadTraining(other)
				wantFailed(t, "LoadTraining of "+name+" with a byte changed", got, ok)
			}
		}
	}
	most := storedByRule(c.storable(c.models()["the most"], impl.MaxSlots, c.anyList))
	for at := 0; at < len(most); at += 1 + c.below(20) {
		got, ok := impl.LoadTraining(most[:at] + string([]byte{most[at] ^ byte(1+c.below(255))}) + most[at+1:])
		wantFailed(t, "LoadTraining of the most bytes with one changed", got, ok)
	}
}

// Behind a check that is right for the changed byte, the bytes are those of
// another state, or of none.
func TestStoredBytesWithOneChangedAndARightCheck(t *testing.T) {
	c := chance(520)
	for name, s := range c.fewStorables() {
		stored := storedByRule(s)
		for at := range len(stored) - 4 {
			for change := 1; change < 256; change++ {
				wantLoads(t, name+" with a byte changed", resealed(stored[:at]+string([]byte{stored[at] ^ byte(change)})+stored[at+1:]))
			}
		}
	}
}

// Fields that no storable state has are refused, although the check is right.
func TestStoredFieldsOfNoState(t *testing.T) {
	c := chance(521)
	for name, valid := range c.fewStorables() {
		for what, broken := range unstorables(valid) {
			wantRefused(t, name+" with "+what, storedByRule(broken))
		}
		for _, number := range []int64{impl.MaxLayers + 1, 255, 256} {
			broken := valid
			broken.Model = model(slices.Repeat([]impl.Layer{layer(impl.LayerRelu, 1, 1, nil, nil)}, int(number))...)
			broken.Slots = nil
			wantRefused(t, name+" with many layers", storedByRule(broken))
		}
	}
	for name, broken := range brokenModels() {
		wantLoads(t, name, storedByRule(state(broken, nil, 3, 7, 1)))
		wantLoads(t, name, storedByRule(state(broken, [][]float32{filled(len(paramsByRule(broken)), 1)}, 3, 7, 1)))
	}
	for _, n := range []int64{6, 7, 128, 255} {
		for what, l := range map[string]impl.Layer{
			"another kind": layer(n, 1, 1, nil, nil), "another In": layerOf(0, n+3, 1, c.small), "another Out": layerOf(0, 1, n+3, c.small),
			"other sizes": layerOf(impl.LayerTanh, min(n+3, 255), min(n+3, 255), c.small), "a norm": layerOf(impl.LayerNorm, min(n+3, 255), min(n+3, 255), c.small),
		} {
			wantRefused(t, what, storedByRule(state(model(l), nil, 3, 7, 1)))
		}
	}
	for _, sizes := range [][2]int64{{0, 1}, {1, 0}, {0, 0}, {1, 2}, {2, 1}} {
		for _, kind := range allKinds()[1:] {
			weights, bias := sizesByRule(kind, sizes[0], sizes[1])
			l := layer(kind, sizes[0], sizes[1], filled(int(weights), 1), filled(int(bias), 1))
			wantRefused(t, "sizes that do not fit", storedByRule(state(model(l), nil, 3, 7, 1)))
		}
	}
	wantRefused(t, "a dense layer without Out", storedByRule(state(model(layer(0, 3, 0, nil, nil)), nil, 3, 7, 1)))
	wantRefused(t, "a dense layer without In", storedByRule(state(model(layer(0, 0, 2, nil, []float32{1, 2})), nil, 3, 7, 1)))
}

// Long words are read with all of their bytes.
func TestStoredLongWords(t *testing.T) {
	s := toldStates()[0]
	open := openByRule(s)
	before := open[:len(open)-20]
	for _, n := range []int64{0, 1, 7, 1000, 1001, impl.MaxSeed, impl.MaxSeed + 1, 1 << 32, 1<<32 + 7, 1<<40 + 7, 1<<48 + 7, 1<<56 + 7, 1<<63 - 1, math.MinInt64, math.MinInt64 + 7, -1, -1000} {
		for _, m := range []int64{3, n} {
			wantLoads(t, "Steps", sealed(before+longBytes(n)+longBytes(m)+bytesByRule(s.Scale)))
			wantLoads(t, "Seed", sealed(before+longBytes(m)+longBytes(n)+bytesByRule(s.Scale)))
		}
	}
}

// A layer or a slot more or less than told leaves bytes over, or takes those
// of others.
func TestStoredCountsThatAreNotTrue(t *testing.T) {
	c := chance(522)
	for name, s := range c.fewStorables() {
		stored := storedByRule(s)
		layers := len(s.Model.Layers)
		slotsAt := 5
		for _, l := range s.Model.Layers {
			slotsAt += len(layerBytes(l))
		}
		wantValue(t, "the number of slots of "+name, int(stored[slotsAt]), len(s.Slots))
		for n := range 256 {
			if n != layers {
				wantLoads(t, name+" with another number of layers", resealed(stored[:4]+string([]byte{byte(n)})+stored[5:]))
			}
			if n != len(s.Slots) {
				wantLoads(t, name+" with another number of slots", resealed(stored[:slotsAt]+string([]byte{byte(n)})+stored[slotsAt+1:]))
			}
		}
		first, last := layerBytes(s.Model.Layers[0]), layerBytes(s.Model.Layers[layers-1])
		wantLoads(t, name+" with a layer more than told", resealed(stored[:5]+first+stored[5:]))
		wantLoads(t, name+" with a last layer more than told", resealed(stored[:slotsAt]+last+stored[slotsAt:]))
		wantLoads(t, name+" with a layer less than told", resealed(stored[:5]+stored[5+len(first):]))
		slot := bytesByRule(filled(len(paramsByRule(s.Model)), 1)...)
		if slot != "" {
			wantRefused(t, name+" with a slot more than told", resealed(stored[:slotsAt+1]+slot+stored[slotsAt+1:]))
			wantRefused(t, name+" with a number more than told", resealed(stored[:slotsAt+1]+slot[:4]+stored[slotsAt+1:]))
		}
		if slot != "" && len(s.Slots) > 0 {
			wantRefused(t, name+" with a slot less than told", resealed(stored[:slotsAt+1]+stored[slotsAt+1+len(slot):]))
			wantRefused(t, name+" with a number less than told", resealed(stored[:slotsAt+1]+stored[slotsAt+5:]))
		}
	}
}

// Bytes of any kind, most of which begin as stored ones do, are loaded just
// if they are those of a state.
func TestAnyBytesAreLoadedByTheRule(t *testing.T) {
	c := chance(523)
	for _, s := range c.fewStorables() {
		stored := []byte(storedByRule(s))
		for range 2000 {
			other := slices.Clone(stored)
			for range 1 + c.below(3) {
				other[c.below(len(other))] = byte(c.below(9))
			}
			wantLoads(t, "bytes that are changed", string(other))
			wantLoads(t, "bytes that are changed with a check", resealed(string(other)))
		}
	}
	for length := range 200 {
		wantLoads(t, "any bytes", c.anyText(length))
		wantLoads(t, "any bytes with a check", sealed("NNT1"+c.anyText(length)))
	}
	for _, length := range []int{impl.MaxStored - 1, impl.MaxStored, impl.MaxStored + 1, 1 << 17} {
		wantRefused(t, "many bytes", c.anyText(length))
		wantRefused(t, "many bytes with a check", sealed("NNT1\x06"+strings.Repeat("\x01\x08\x08", 6)+c.anyText(length)))
	}
}
