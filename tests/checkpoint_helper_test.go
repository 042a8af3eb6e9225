package tests

import (
	"encoding/binary"
	"encoding/hex"
	"math"
	"slices"
	"testing"

	"loop.example/g01157/impl"
)

func wordBytes(n int64) string {
	return string(binary.LittleEndian.AppendUint32(nil, uint32(n)))
}

func longBytes(n int64) string {
	return string(binary.LittleEndian.AppendUint64(nil, uint64(n)))
}

// bytesOf returns the bytes with the given hexadecimal digits.
func bytesOf(digits string) string {
	list, err := hex.DecodeString(digits)
	if err != nil {
		panic(err)
	}
	return string(list)
}

// rawBytes has the bits of numbers, also those of not-a-numbers that no text
// of numbers has.
func rawBytes(list ...float32) string {
	text := ""
	for _, x := range list {
		text += wordBytes(int64(math.Float32bits(x)))
	}
	return text
}

func bytesByRule(list ...float32) string {
	var text []byte
	for _, x := range list {
		bits := math.Float32bits(x)
		if isNan(x) {
			bits = 0x7fc00000
		}
		text = binary.LittleEndian.AppendUint32(text, bits)
	}
	return string(text)
}

// checkByRule is the text of the document, bit by bit.
func checkByRule(s string) int64 {
	check := int64(4294967295)
	for _, part := range []byte(s) {
		check ^= int64(part)
		for range 8 {
			if check%2 == 1 {
				check = check/2 ^ 3988292384
			} else {
				check /= 2
			}
		}
	}
	return check ^ 4294967295
}

func sealed(s string) string { return s + wordBytes(checkByRule(s)) }

// resealed has another check at the end, which is right for the bytes before.
func resealed(s string) string { return sealed(s[:len(s)-4]) }

// endByRule has what stored trainings and patches have before their check.
func endByRule(t impl.TrainState) string {
	return longBytes(t.Steps) + longBytes(t.Seed) + bytesByRule(t.Scale)
}

func layerBytes(l impl.Layer) string {
	return string([]byte{byte(l.Kind), byte(l.In), byte(l.Out)}) + bytesByRule(l.Weights...) + bytesByRule(l.Bias...)
}

// openByRule has the stored bytes of t without their check. It does so for
// states that are not storable, too.
func openByRule(t impl.TrainState) string {
	text := "NNT1" + string([]byte{byte(len(t.Model.Layers))})
	for _, l := range t.Model.Layers {
		text += layerBytes(l)
	}
	text += string([]byte{byte(len(t.Slots))})
	for _, slot := range t.Slots {
		text += bytesByRule(slot...)
	}
	return text + endByRule(t)
}

func storedByRule(t impl.TrainState) string { return sealed(openByRule(t)) }

// placed is a number of b at an index of AllNumbers.
type placed struct {
	index  int64
	number float32
}

// openPatch has the bytes of a patch for a that puts some numbers, without
// their check, also if there is no such patch.
func openPatch(a, b impl.TrainState, changes ...placed) string {
	text := "NNP1" + wordBytes(checkByRule(storedByRule(a))) + wordBytes(int64(len(changes)))
	for _, c := range changes {
		text += wordBytes(c.index) + bytesByRule(c.number)
	}
	return text + endByRule(b)
}

func numbersByRule(t impl.TrainState) []float32 {
	list := paramsByRule(t.Model)
	for _, slot := range t.Slots {
		list = append(list, slot...)
	}
	return list
}

func changedByRule(a, b impl.TrainState) []placed {
	var changes []placed
	others := numbersByRule(b)
	for i, x := range numbersByRule(a) {
		if !same(x, others[i]) {
			changes = append(changes, placed{int64(i), others[i]})
		}
	}
	return changes
}

func patchByRule(a, b impl.TrainState) string { return sealed(openPatch(a, b, changedByRule(a, b)...)) }

func archiveByRule(texts ...string) string {
	archive := ""
	for _, text := range texts {
		archive += wordBytes(int64(len(text))) + text
	}
	return archive
}

// parser takes fields from bytes, and is broken if there are too few.
type parser struct {
	left   string
	broken bool
}

func (p *parser) bytes(count int) string {
	if p.broken || len(p.left) < count {
		p.broken = true
		return string(make([]byte, min(count, 8)))
	}
	taken := p.left[:count]
	p.left = p.left[count:]
	return taken
}

func (p *parser) single() int64 { return int64(p.bytes(1)[0]) }

func (p *parser) word() int64 { return int64(binary.LittleEndian.Uint32([]byte(p.bytes(4)))) }

func (p *parser) long() int64 { return int64(binary.LittleEndian.Uint64([]byte(p.bytes(8)))) }

// number is broken by the bits of a not-a-number that no text of numbers has.
func (p *parser) number() float32 {
	x := of(uint32(p.word()))
	p.broken = p.broken || isNan(x) && math.Float32bits(x) != 0x7fc00000
	return x
}

func (p *parser) numbers(count int64) []float32 {
	var list []float32
	for i := int64(0); i < count && !p.broken; i++ {
		list = append(list, p.number())
	}
	return list
}

// end takes what stored trainings and patches have at their end, where whole
// is all of their bytes, and requires nothing behind it.
func (p *parser) end(t *impl.TrainState, whole string) bool {
	t.Steps, t.Seed = p.long(), p.long()
	t.Scale = p.number()
	return p.word() == checkByRule(whole[:max(len(whole)-4, 0)]) && !p.broken && p.left == ""
}

// isStorableByRule is the text of the document.
func isStorableByRule(t impl.TrainState) bool {
	layers := t.Model.Layers
	if len(layers) < 1 || len(layers) > 6 || len(t.Slots) > 4 {
		return false
	}
	for i, l := range layers {
		if l.Kind < 0 || l.Kind > 5 || l.In < 1 || l.In > 8 || l.Out < 1 || l.Out > 8 || l.Kind != 0 && l.In != l.Out {
			return false
		}
		weights, bias := sizesByRule(l.Kind, l.In, l.Out)
		if int64(len(l.Weights)) != weights || int64(len(l.Bias)) != bias || i > 0 && layers[i-1].Out != l.In {
			return false
		}
	}
	for _, slot := range t.Slots {
		if len(slot) != len(paramsByRule(t.Model)) {
			return false
		}
	}
	return t.Steps >= 0 && t.Steps <= 1000 && t.Seed >= 0 && t.Seed <= 2147483647
}

// loadByRule reads each field of stored bytes, and refuses those that are not
// as the document says.
func loadByRule(s string) (impl.TrainState, bool) {
	var t impl.TrainState
	p := parser{left: s}
	if p.bytes(4) != "NNT1" {
		return impl.TrainState{}, false
	}
	for range p.single() {
		l := layer(p.single(), p.single(), p.single(), nil, nil)
		weights, bias := sizesByRule(l.Kind, l.In, l.Out)
		l.Weights, l.Bias = p.numbers(weights), p.numbers(bias)
		t.Model.Layers = append(t.Model.Layers, l)
	}
	for range p.single() {
		t.Slots = append(t.Slots, p.numbers(int64(len(paramsByRule(t.Model)))))
	}
	if !p.end(&t, s) || !isStorableByRule(t) {
		return impl.TrainState{}, false
	}
	return t, true
}

// applyByRule reads each field of a patch, and refuses those that are not as
// the document says, for a storable a.
func applyByRule(a impl.TrainState, patch string) (impl.TrainState, bool) {
	p := parser{left: patch}
	b := copiedState(a)
	places := placesIn(&b)
	if p.bytes(4) != "NNP1" || p.word() != checkByRule(storedByRule(a)) {
		return impl.TrainState{}, false
	}
	last := int64(-1)
	for count := p.word(); count > 0 && !p.broken; count-- {
		index, x := p.word(), p.number()
		if index <= last || index >= int64(len(places)) || same(*places[index], x) {
			return impl.TrainState{}, false
		}
		*places[index], last = x, index
	}
	if !p.end(&b, patch) || !isStorableByRule(b) {
		return impl.TrainState{}, false
	}
	return b, true
}

// placesIn has the places of the numbers of t in the order of AllNumbers.
func placesIn(t *impl.TrainState) []*float32 { return numbersIn(t)[1:] }

// entriesByRule is the text of the document, without the limit for archives.
func entriesByRule(archive string) []string {
	var entries []string
	p := parser{left: archive}
	for len(entries) < 8 {
		length := p.word()
		if p.broken || length > 20000 || length > int64(len(p.left)) {
			break
		}
		entries = append(entries, p.bytes(int(length)))
	}
	return entries
}

// storable has slots of numbers that list makes, and any other fields.
func (c *chance) storable(m impl.Model, slots int, list func(count int) []float32) impl.TrainState {
	made := make([][]float32, slots)
	for i := range made {
		made[i] = list(len(paramsByRule(m)))
	}
	steps := []int64{0, 1, 255, 256, impl.MaxSteps - 1, impl.MaxSteps}[c.below(6)]
	return state(m, made, steps, c.seed(), list(1)[0])
}

// withNumbers returns m with other parameters, which list makes.
func withNumbers(m impl.Model, list func(count int) []float32) impl.Model {
	return withParamsByRule(m, list(len(paramsByRule(m))))
}

// storables has states of all kinds of models, with each number of slots, and
// numbers that are small, sometimes others, and any ones.
func (c *chance) storables() map[string]impl.TrainState {
	list := map[string]impl.TrainState{}
	for name, m := range c.models() {
		for i, numbers := range []func(int) []float32{c.smallList, c.mixedList, c.anyList} {
			for slots := range impl.MaxSlots + 1 {
				what := name + " " + impl.Decimal(int64(i)) + " with slots: " + impl.Decimal(int64(slots))
				list[what] = c.storable(withNumbers(m, numbers), slots, numbers)
			}
		}
	}
	return list
}

// fewStorables has states of few bytes, one of each sort.
func (c *chance) fewStorables() map[string]impl.TrainState {
	net := model(c.smallLayer(impl.LayerDense, 2, 1), c.smallLayer(impl.LayerRelu, 1, 1), c.smallLayer(impl.LayerScale, 1, 1), c.smallLayer(impl.LayerNorm, 1, 1))
	return map[string]impl.TrainState{
		"the told one":            toldStates()[0],
		"a net":                   c.storable(net, 2, c.smallList),
		"a net of any numbers":    c.storable(withNumbers(net, c.anyList), 1, c.anyList),
		"not-a-numbers":           c.storable(withNumbers(net, func(count int) []float32 { return filled(count, nan) }), 1, c.anyList),
		"no parameters":           c.storable(model(c.smallLayer(impl.LayerTanh, 3, 3), c.smallLayer(impl.LayerSoftmax, 3, 3)), 0, c.smallList),
		"no parameters but slots": c.storable(model(c.smallLayer(impl.LayerRelu, 8, 8)), impl.MaxSlots, c.smallList),
		"the most layers":         c.storable(model(slices.Repeat([]impl.Layer{layer(impl.LayerRelu, 2, 2, nil, nil)}, impl.MaxLayers)...), 1, c.smallList),
		"the most slots":          c.storable(model(c.smallLayer(impl.LayerScale, 2, 2)), impl.MaxSlots, c.smallList),
	}
}

// toldStates has two states that fit.
func toldStates() [2]impl.TrainState {
	told := func(bias, slot float32, steps int64) impl.TrainState {
		return state(model(layer(impl.LayerDense, 1, 1, []float32{2}, []float32{bias})), [][]float32{{0.5, slot}}, steps, 7, 1)
	}
	return [2]impl.TrainState{told(1, -0.5, 3), told(4, 8, 4)}
}

// unstorables has states that differ from a storable one in one way each.
func unstorables(valid impl.TrainState) map[string]impl.TrainState {
	list := map[string]impl.TrainState{}
	for what, broken := range brokenStates(valid) {
		// A state without slots, or with others, is storable here.
		if !isStorableByRule(broken) {
			list[what] = broken
		}
	}
	count := len(paramsByRule(valid.Model))
	for _, slots := range []int{impl.MaxSlots + 1, impl.MaxSlots + 2, 255} {
		broken := valid
		broken.Slots = slices.Repeat([][]float32{filled(count, 0)}, slots)
		list["many slots: "+impl.Decimal(int64(slots))] = broken
	}
	for slots := 1; slots <= impl.MaxSlots; slots++ {
		for _, length := range []int{0, count - 1, count + 1, 2 * count, 5000} {
			if length < 0 || length == count {
				continue
			}
			for place := range slots {
				broken := valid
				broken.Slots = slices.Repeat([][]float32{filled(count, 0)}, slots)
				broken.Slots[place] = filled(length, 0)
				list["slots: "+impl.Decimal(int64(slots))+", one of the length "+impl.Decimal(int64(length))+" at "+impl.Decimal(int64(place))] = broken
			}
		}
	}
	return list
}

// wantLoads requires LoadTraining to do what loadByRule does.
func wantLoads(t *testing.T, what string, s string) {
	t.Helper()
	want, wantOk := loadByRule(s)
	got, ok := impl.LoadTraining(s)
	if !wantOk {
		wantFailed(t, "LoadTraining of "+what, got, ok)
		return
	}
	wantStateOk(t, "LoadTraining of "+what, got, ok, want)
}

// wantRefused requires both LoadTraining and loadByRule to fail.
func wantRefused(t *testing.T, what string, s string) {
	t.Helper()
	_, ok := loadByRule(s)
	wantValue(t, "by the rule, "+what, ok, false)
	wantLoads(t, what, s)
}

// wantApplies requires ApplyPatch to do what applyByRule does.
func wantApplies(t *testing.T, what string, a impl.TrainState, patch string) {
	t.Helper()
	want, wantOk := applyByRule(a, patch)
	got, ok := impl.ApplyPatch(a, patch)
	if !wantOk {
		wantFailed(t, "ApplyPatch of "+what, got, ok)
		return
	}
	wantStateOk(t, "ApplyPatch of "+what, got, ok, want)
}

// wantNoPatch requires both ApplyPatch and applyByRule to fail.
func wantNoPatch(t *testing.T, what string, a impl.TrainState, patch string) {
	t.Helper()
	_, ok := applyByRule(a, patch)
	wantValue(t, "by the rule, "+what, ok, false)
	wantApplies(t, what, a, patch)
}
