package tests

import (
	"fmt"
	"slices"
	"testing"

	"loop.example/g01157/impl"
)

// inEachPlace has lists of count numbers, each of which has one of numbers
// everywhere.
func inEachPlace(count int, numbers ...float32) [][]float32 {
	var lists [][]float32
	for _, x := range numbers {
		lists = append(lists, filled(count, x))
	}
	return lists
}

func TestReduceToldLists(t *testing.T) {
	const great = 16777216 // where 1 more is rounded away
	for _, c := range []struct {
		name             string
		lists            [][]float32
		line, tree, ring []float32
	}{
		{"one list", [][]float32{{1, -2, 0.5}}, []float32{1, -2, 0.5}, []float32{1, -2, 0.5}, []float32{1, -2, 0.5}},
		{"one list of each sort", [][]float32{{minusZero, 0, infinity, -infinity, nan}}, []float32{minusZero, 0, infinity, -infinity, nan}, []float32{minusZero, 0, infinity, -infinity, nan}, []float32{minusZero, 0, infinity, -infinity, nan}},
		{"two lists", [][]float32{{1, 2}, {3, -2}}, []float32{4, 0}, []float32{4, 0}, []float32{4, 0}},
		{"three lists", inEachPlace(4, 1, 1, great), filled(4, great+2), filled(4, great+2), []float32{great + 2, great, great, great + 2}},
		{"three lists around", inEachPlace(4, great, 1, 1), filled(4, great), filled(4, great), []float32{great, great + 2, great, great}},
		{"four lists", inEachPlace(5, 1, great, 1, -great), filled(5, 0), filled(5, 1), []float32{0, 1, 2, 2, 0}},
		{"five lists", inEachPlace(6, 1, great, 1, -great, great), filled(6, great), filled(6, great), []float32{great, great, great + 2, great, great, great}},
		{"seven lists", inEachPlace(7, 1, 1, 1, great, 1, 1, 1), filled(7, great+4), filled(7, great+4), []float32{great + 4, great + 4, great, great, great + 6, great + 4, great + 4}},
		{"eight lists", inEachPlace(9, great, 1, 1, 1, 1, 1, 1, 1), filled(9, great), filled(9, great+6), []float32{great, great + 8, great + 8, great + 4, great + 4, great + 4, great + 4, great, great}},
		{"zeros", [][]float32{{0, minusZero, 0, minusZero}, {0, minusZero, minusZero, 0}}, []float32{0, minusZero, 0, 0}, []float32{0, minusZero, 0, 0}, []float32{0, minusZero, 0, 0}},
		{"infinities", inEachPlace(2, infinity, 1, -infinity), filled(2, nan), filled(2, nan), filled(2, nan)},
		{"an infinity below", inEachPlace(3, 1, -infinity, greatest), filled(3, -infinity), filled(3, -infinity), filled(3, -infinity)},
		{"a not-a-number", inEachPlace(4, 1, 2, of(0xffc00001), 4), filled(4, nan), filled(4, nan), filled(4, nan)},
		{"sums that overflow", inEachPlace(4, greatest, greatest, -greatest, -greatest), filled(4, infinity), filled(4, nan), []float32{infinity, 0, -infinity, 0}},
		{"the least numbers", inEachPlace(2, least, least, -least, -least), filled(2, 0), filled(2, 0), filled(2, 0)},
	} {
		for kind, want := range map[int64][]float32{impl.ReduceLine: c.line, impl.ReduceTree: c.tree, impl.ReduceRing: c.ring} {
			got, ok := impl.ReduceLists(kind, c.lists)
			wantNumbersOk(t, fmt.Sprintf("ReduceLists of %s by kind %d", c.name, kind), got, ok, want)
		}
	}
}

func TestReduceListsOfMinusZeros(t *testing.T) {
	for count := 1; count <= impl.MaxWorkers; count++ {
		for plus := -1; plus < count; plus++ {
			numbers := filled(count, minusZero)
			want := minusZero
			if plus >= 0 {
				numbers[plus], want = 0, 0
			}
			for _, kind := range allReductions() {
				got, ok := impl.ReduceLists(kind, inEachPlace(9, numbers...))
				wantNumbersOk(t, "ReduceLists of zeros", got, ok, filled(9, want))
			}
		}
	}
}

func TestReduceLists(t *testing.T) {
	c := chance(710)
	for _, kind := range allReductions() {
		for count := 1; count <= impl.MaxWorkers; count++ {
			for _, length := range []int{0, 1, 2, 3, 7, 8, 9, 17, 432, 511, 512} {
				for _, numbers := range []func(int) []float32{c.smallList, c.mixedList, c.anyList, c.namedList, c.tinyList} {
					var lists [][]float32
					for range count {
						lists = append(lists, numbers(length))
					}
					got, ok := impl.ReduceLists(kind, lists)
					wantNumbersOk(t, fmt.Sprintf("ReduceLists of %d lists of %d by kind %d", count, length, kind), got, ok, reducedByRule(kind, lists))
				}
			}
		}
	}
}

// The three orders give different sums of most lists.
func TestReductionsDiffer(t *testing.T) {
	c := chance(711)
	for count := 3; count <= impl.MaxWorkers; count++ {
		var lists [][]float32
		for range count {
			lists = append(lists, c.smallList(512))
		}
		line, _ := impl.ReduceLists(impl.ReduceLine, lists)
		tree, _ := impl.ReduceLists(impl.ReduceTree, lists)
		ring, _ := impl.ReduceLists(impl.ReduceRing, lists)
		wantValue(t, "line and ring are the same", textOfResult(line) == textOfResult(ring), false)
		wantValue(t, "tree and ring are the same", textOfResult(tree) == textOfResult(ring), false)
		wantValue(t, "line and tree are the same", textOfResult(line) == textOfResult(tree), count == 3)
	}
}

func wantNotReduced(t *testing.T, what string, lists [][]float32) {
	t.Helper()
	for _, kind := range append(allReductions(), otherReductions()...) {
		got, ok := impl.ReduceLists(kind, lists)
		wantFailed(t, "ReduceLists of "+what, got, ok)
	}
}

func TestListsThatCannotBeReduced(t *testing.T) {
	for _, length := range []int{0, 1, 2, 512} {
		for _, count := range []int{0, 9, 10, 16, 1000} {
			wantNotReduced(t, "too few or too many lists", slices.Repeat([][]float32{filled(length, 1)}, count))
		}
		for count := 2; count <= impl.MaxWorkers; count++ {
			for place := range count {
				for _, other := range []int{0, length - 1, length + 1, 513} {
					if other < 0 || other == length {
						continue
					}
					lists := slices.Repeat([][]float32{filled(length, 1)}, count)
					lists[place] = filled(other, 1)
					wantNotReduced(t, "lists of other lengths", lists)
				}
			}
		}
	}
	wantNotReduced(t, "no lists", nil)
	wantNotReduced(t, "an empty list of lists", [][]float32{})
	for _, length := range []int{513, 514, 1024, 100000} {
		for count := 1; count <= 9; count++ {
			wantNotReduced(t, "lists that are too long", slices.Repeat([][]float32{filled(length, 1)}, count))
		}
	}
}

// Unused capacity of the list of lists, and of the lists, does not count.
func TestReduceListsWithUnusedCapacity(t *testing.T) {
	for count := range impl.MaxWorkers + 1 {
		for _, length := range []int{0, 1, 3, 511, 512} {
			lists := make([][]float32, 0, 1000)
			for i := range count {
				lists = append(lists, append(make([]float32, 0, 1000), filled(length, float32(i))...))
			}
			for _, kind := range allReductions() {
				got, ok := impl.ReduceLists(kind, lists)
				if count == 0 {
					wantFailed(t, "ReduceLists of unused capacity alone", got, ok)
					continue
				}
				wantNumbersOk(t, "ReduceLists with unused capacity", got, ok, filled(length, float32(count*(count-1)/2)))
			}
		}
	}
}

func TestOtherKindsOfReduction(t *testing.T) {
	for _, kind := range append(otherReductions(), 3, 4, 5, 6, 7, 8) {
		for count := 1; count <= impl.MaxWorkers; count++ {
			for _, length := range []int{0, 1, 512} {
				got, ok := impl.ReduceLists(kind, slices.Repeat([][]float32{filled(length, 1)}, count))
				wantFailed(t, "ReduceLists by another kind", got, ok)
			}
		}
		for workers := int64(1); workers <= 4; workers++ {
			a := scaled(2, workers, 1, 2, 3, 4)
			a.kind = kind
			a.wantNotTogether(t, "another kind")
			_, _, ok := a.own()
			wantValue(t, "WorkerGradients, which have no kind", ok, true)
		}
	}
}

func TestSharedGradientsWithToldBits(t *testing.T) {
	for kind, told := range map[int64]struct {
		gradients, params []uint32
		loss              uint32
	}{
		impl.ReduceLine: {
			gradients: []uint32{0x3f532bed, 0xc07e183f, 0x3f8b1b53, 0x3fe240a3, 0x3f0ecd87, 0x3f4ac29c, 0x3fac1426, 0x3eb9db51, 0x3ef05480, 0x402a6829, 0x40362b6a, 0xbedf7f6f, 0x3eff96dc, 0x3fbb7549, 0xbf680202, 0x3fbb3964, 0xbfb23402, 0x3fe75b6a, 0x3f72da4c, 0xbdcdbd86},
			params:    []uint32{0xbe170184, 0x3efb6d66, 0x3f795600, 0xbe4d1602, 0xbebc14eb, 0x3f29926a, 0xbeb4e4fb, 0xbdf38210, 0x3e230080, 0x3e9a3936, 0xbe1d9d34, 0xbfc8d672, 0x3e19d8b0, 0x3e24801e, 0xbe0330ca, 0x3fbb0862, 0xbec3c197, 0xbeaa1bc8, 0xbe3d05f6, 0xbe2df05f},
			loss:      0x40afb863,
		},
		impl.ReduceTree: {
			gradients: []uint32{0x3f532bee, 0xc07e183f, 0x3f8b1b53, 0x3fe240a2, 0x3f0ecd87, 0x3f4ac29c, 0x3fac1425, 0x3eb9db51, 0x3ef05480, 0x402a6829, 0x40362b6a, 0xbedf7f6f, 0x3eff96dc, 0x3fbb754a, 0xbf680202, 0x3fbb3964, 0xbfb23402, 0x3fe75b6a, 0x3f72da4d, 0xbdcdbd86},
			params:    []uint32{0xbe170184, 0x3efb6d66, 0x3f795600, 0xbe4d1602, 0xbebc14eb, 0x3f29926a, 0xbeb4e4f9, 0xbdf38210, 0x3e230080, 0x3e9a3936, 0xbe1d9d34, 0xbfc8d672, 0x3e19d8b0, 0x3e24801c, 0xbe0330ca, 0x3fbb0862, 0xbec3c197, 0xbeaa1bc8, 0xbe3d05f8, 0xbe2df05f},
			loss:      0x40afb862,
		},
		impl.ReduceRing: {
			gradients: []uint32{0x3f532bed, 0xc07e183f, 0x3f8b1b53, 0x3fe240a1, 0x3f0ecd86, 0x3f4ac29c, 0x3fac1425, 0x3eb9db50, 0x3ef05480, 0x402a6829, 0x40362b69, 0xbedf7f6e, 0x3eff96dd, 0x3fbb754a, 0xbf680202, 0x3fbb3964, 0xbfb23402, 0x3fe75b6a, 0x3f72da4c, 0xbdcdbd88},
			params:    []uint32{0xbe170184, 0x3efb6d66, 0x3f795600, 0xbe4d15fe, 0xbebc14ea, 0x3f29926a, 0xbeb4e4f9, 0xbdf3820e, 0x3e230080, 0x3e9a3936, 0xbe1d9d30, 0xbfc8d672, 0x3e19d8af, 0x3e24801c, 0xbe0330ca, 0x3fbb0862, 0xbec3c197, 0xbeaa1bc8, 0xbe3d05f6, 0xbe2df05f},
			loss:      0x40afb863,
		},
	} {
		what := fmt.Sprintf("by kind %d", kind)
		a := toldShared(kind)
		list, loss, ok := a.together()
		wantNumbersOk(t, "SharedGradients "+what, list, ok, numbersOf(told.gradients))
		wantNumber(t, "SharedGradients "+what+": loss", loss, of(told.loss))
		m, ok := a.step()
		wantValue(t, "SharedStep "+what+": success", ok, true)
		wantParams(t, "SharedStep "+what, m, told.params)
	}
}

// wantTogether requires shared gradients to be the reduced ones, and a shared
// step to take the product of rate and them away, number by number.
func (a sharedArguments) wantTogether(t *testing.T, what string) {
	t.Helper()
	lists, losses, ok := a.own()
	wantValue(t, "WorkerGradients of "+what+": success", ok, true)
	want, wantLoss := a.togetherByRule()
	reduced, ok := impl.ReduceLists(a.kind, lists)
	wantNumbersOk(t, "ReduceLists of "+what, reduced, ok, want)
	lossLists := make([][]float32, len(losses))
	for i, loss := range losses {
		lossLists[i] = []float32{loss}
	}
	reducedLoss, ok := impl.ReduceLists(a.kind, lossLists)
	wantNumbersOk(t, "ReduceLists of the losses of "+what, reducedLoss, ok, []float32{wantLoss})
	list, loss, ok := a.together()
	wantNumbersOk(t, "SharedGradients of "+what, list, ok, want)
	wantNumber(t, "SharedGradients of "+what+": loss", loss, wantLoss)
	m, ok := a.step()
	wantModelOk(t, "SharedStep of "+what, m, ok, a.stepByRule())
}

func TestSharedStepsAreThoseOfReducedGradients(t *testing.T) {
	c := chance(712)
	for range 3 {
		for name, a := range c.shared() {
			for _, a.kind = range allReductions() {
				a.wantTogether(t, name)
			}
		}
	}
}

func TestSharedStepsWithEachRate(t *testing.T) {
	c := chance(713)
	for _, rate := range edges() {
		for _, kind := range allReductions() {
			a := toldShared(kind)
			a.rate = rate
			a.wantTogether(t, "a net")
			a = sharedOf(c.tapedModels()["each kind"], 9, int64(1+c.below(8)), kind, c.mixedList)
			a.rate = rate
			a.wantTogether(t, "each kind of layers")
		}
	}
}

func TestSharedStepsOfToldNumbers(t *testing.T) {
	with := func(a sharedArguments, rate float32) sharedArguments {
		a.rate = rate
		return a
	}
	for _, c := range []struct {
		name      string
		arguments sharedArguments
		want      float32
	}{
		{"a step", with(scaled(2, 2, 1, 2, 3, 4), 0.5), 2 - 15},
		{"a rate of 0", with(scaled(2, 2, 1, 2, 3, 4), 0), 2},
		{"a rate of -0", with(scaled(2, 4, 1, 2, 3, 4), minusZero), 2},
		{"a weight of 0 and a rate of -0", with(scaled(0, 2, 1, 2), minusZero), 0},
		{"a weight of -0 and a rate of 0", with(scaled(minusZero, 2, 1, 2), 0), minusZero},
		{"a rate below 0", with(scaled(2, 3, 1, 2, 3, 4), -0.5), 2 + 15},
		{"an infinite rate", with(scaled(2, 2, 1, 2), infinity), -infinity},
		{"a rate of -infinity", with(scaled(2, 2, 1, 2), -infinity), infinity},
		{"an infinite rate and gradients of 0", with(scaled(2, 2, 0, 0), infinity), nan},
		{"a rate that is none", with(scaled(2, 2, 1, 2), nan), nan},
		{"a rate that is none and gradients of 0", with(scaled(2, 2, 0, 0), of(0xffc00001)), nan},
		{"an infinite gradient of one worker", with(scaled(2, 3, 1, 1<<64, 3), 0.5), -infinity},
		{"an infinite gradient and a rate of 0", with(scaled(2, 3, 1, 1<<64, 3), 0), nan},
		{"a gradient of one worker that is none", with(scaled(2, 3, 1, nan, 3), 0.5), nan},
		{"a weight that is none", with(scaled(nan, 2, 1, 2), 0), nan},
	} {
		for _, c.arguments.kind = range allReductions() {
			m, ok := c.arguments.step()
			wantModelOk(t, "SharedStep, "+c.name, m, ok, model(layer(impl.LayerScale, 1, 1, []float32{c.want}, nil)))
		}
	}
	// The infinite losses and gradients of two workers have opposite signs.
	m := model(layer(impl.LayerDense, 1, 1, []float32{1}, []float32{0}))
	a := sharedArguments{m, tensor(2, 1, infinity, -infinity), tensor(2, 1, 0, 0), 2, impl.ReduceTree, 0.5}
	lists, losses, ok := a.own()
	wantListsOk(t, "WorkerGradients of infinities", lists, ok, [][]float32{{infinity, infinity}, {infinity, -infinity}})
	wantNumbersOk(t, "WorkerGradients of infinities: losses", losses, ok, []float32{infinity, infinity})
	list, loss, ok := a.together()
	wantNumbersOk(t, "SharedGradients of infinities", list, ok, []float32{infinity, nan})
	wantNumber(t, "SharedGradients of infinities: loss", loss, infinity)
	made, ok := a.step()
	wantModelOk(t, "SharedStep of infinities", made, ok, model(layer(impl.LayerDense, 1, 1, []float32{-infinity}, []float32{nan})))
}

// There are models with more parameters than an optimiser takes, and models
// without any.
func TestSharedStepsOfTheMostAndNoParameters(t *testing.T) {
	c := chance(714)
	for _, kind := range allReductions() {
		for workers := int64(1); workers <= impl.MaxWorkers; workers++ {
			most := sharedOf(c.tapedModels()["the most dense"], impl.MaxSide, workers, kind, c.smallList)
			most.rate = 1e-6
			most.wantTogether(t, "the most parameters")
			list, _, ok := most.together()
			wantOk(t, "how many parameters", len(list), ok, 432)
			none := sharedOf(c.tapedModels()["the most Relu"], 8, workers, kind, c.anyList)
			none.wantTogether(t, "no parameters")
			lists, _, ok := none.own()
			wantListsOk(t, "WorkerGradients without parameters", lists, ok, slices.Repeat([][]float32{nil}, int(workers)))
			m, ok := none.step()
			wantModelOk(t, "SharedStep without parameters", m, ok, none.model)
		}
	}
}
