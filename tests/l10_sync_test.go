package tests

import (
	"slices"
	"testing"

	"loop.example/g01157/impl"
)

// copiesOf has count models with the same numbers, in memory of their own.
func copiesOf(m impl.Model, count int) []impl.Model {
	var list []impl.Model
	for range count {
		list = append(list, roomyModel(m))
	}
	return list
}

func TestModelsInSync(t *testing.T) {
	c := chance(720)
	for name, m := range c.models() {
		for _, numbers := range []func(int) []float32{c.smallList, c.anyList, c.namedList} {
			m = withNumbers(m, numbers)
			for count := range 12 {
				isCount := count >= 1 && count <= 8
				wantValue(t, "AreInSync of copies of "+name, impl.AreInSync(copiesOf(m, count)), isCount)
				wantValue(t, "AreInSync of one in several places, "+name, impl.AreInSync(slices.Repeat([]impl.Model{m}, count)), isCount)
			}
		}
	}
	wantValue(t, "AreInSync of no models", impl.AreInSync(nil), false)
	wantValue(t, "AreInSync of an empty list", impl.AreInSync([]impl.Model{}), false)
	for count := range 12 {
		models := append(make([]impl.Model, 0, 100), copiesOf(doubled(), count)...)
		wantValue(t, "AreInSync with unused capacity", impl.AreInSync(models), count >= 1 && count <= 8)
	}
}

// wantOneApart requires models not to be in sync if one of them, in any place,
// is another one.
func wantOneApart(t *testing.T, what string, m, other impl.Model, want bool) {
	t.Helper()
	for _, count := range []int{2, 3, 8} {
		for place := range count {
			models := copiesOf(m, count)
			models[place] = other
			wantValue(t, "AreInSync, "+what, impl.AreInSync(models), want)
		}
	}
}

func TestModelsThatDifferInOneNumber(t *testing.T) {
	c := chance(721)
	pairs := [][2]float32{{1, of(0x3f800001)}, {0, minusZero}, {minusZero, 0}, {nan, of(0xffc00001)}, {of(0x7f800001), nan}, {nan, infinity}, {infinity, -infinity}, {0, least}, {3, -3}}
	for name, m := range c.models() {
		for place := range paramsByRule(m) {
			if name == "the most" && place%31 != 0 {
				continue
			}
			for _, pair := range pairs {
				params := paramsByRule(m)
				params[place] = pair[0]
				before := withParamsByRule(m, params)
				params[place] = pair[1]
				wantOneApart(t, "a number of "+name, before, withParamsByRule(m, params), isNan(pair[0]) && isNan(pair[1]))
			}
		}
	}
}

func TestModelsThatDifferInForm(t *testing.T) {
	numbers := func(count int) []float32 { return filled(count, 1) }
	one := func(kind, in, out int64) impl.Layer {
		return layerOf(kind, in, out, func() float32 { return 1 })
	}
	for _, in := range []int64{1, 2, 8} {
		for _, kind := range allKinds() {
			for _, other := range allKinds() {
				same := kind == other
				wantOneApart(t, "a kind", model(one(kind, in, in)), model(one(other, in, in)), same)
				wantOneApart(t, "a last kind", model(one(0, 3, in), one(kind, in, in)), model(one(0, 3, in), one(other, in, in)), same)
				wantOneApart(t, "a first kind", model(one(kind, in, in), one(0, in, 2)), model(one(other, in, in), one(0, in, 2)), same)
			}
			m := model(one(kind, in, in))
			wantOneApart(t, "other sizes", m, model(one(kind, in%8+1, in%8+1)), false)
			wantOneApart(t, "a layer more", m, model(one(kind, in, in), one(1, in, in)), false)
			wantOneApart(t, "the same layer twice", m, model(one(kind, in, in), one(kind, in, in)), false)
		}
	}
	// These have as many numbers, and the same ones.
	three, two := dense(3, 1, numbers(3), numbers(1)), dense(1, 2, numbers(2), numbers(2))
	wantOneApart(t, "In and Out", model(three), model(two), false)
	wantOneApart(t, "a dense and a norm layer", model(dense(1, 1, numbers(1), numbers(1))), model(layer(impl.LayerNorm, 1, 1, numbers(1), numbers(1))), false)
	wantOneApart(t, "the order of layers", model(one(1, 2, 2), one(3, 2, 2)), model(one(3, 2, 2), one(1, 2, 2)), false)
	a, b := layer(impl.LayerScale, 1, 1, []float32{1}, nil), layer(impl.LayerScale, 1, 1, []float32{2}, nil)
	wantOneApart(t, "the order of numbers", model(a, b), model(b, a), false)
	empty := layer(impl.LayerRelu, 2, 2, []float32{}, []float32{})
	wantOneApart(t, "an empty list for none", model(one(1, 2, 2)), model(empty), true)
}

func TestModelsInSyncAreValid(t *testing.T) {
	c := chance(722)
	for name, broken := range brokenModels() {
		for _, count := range []int{1, 2, 8, 9} {
			wantValue(t, "AreInSync of broken models: "+name, impl.AreInSync(slices.Repeat([]impl.Model{broken}, count)), false)
		}
		wantOneApart(t, "a broken one: "+name, model(c.smallLayer(0, 2, 2)), broken, false)
	}
	// The last one is not valid, and the same layer as the others otherwise.
	valid, long := model(dense(1, 1, []float32{1}, []float32{2})), model(dense(1, 1, []float32{1}, []float32{2, 3}))
	wantOneApart(t, "a bias too many", valid, long, false)
	wantOneApart(t, "a bias too few", long, valid, false)
}

// Workers that make the same steps from the same model stay in sync.
func TestWorkersStayInSync(t *testing.T) {
	c := chance(723)
	for name, a := range c.shared() {
		models := copiesOf(a.model, int(a.workers))
		for range 3 {
			wantValue(t, "AreInSync between steps of "+name, impl.AreInSync(models), true)
			for i, m := range models {
				own := a
				own.model = m
				models[i], _ = own.step()
			}
		}
		wantValue(t, "AreInSync behind steps of "+name, impl.AreInSync(models), true)
	}
}
