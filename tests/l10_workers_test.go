package tests

import (
	"fmt"
	"testing"

	"loop.example/g01157/impl"
)

func TestWorkerRows(t *testing.T) {
	numbers := append(anyIntegers(), -2, 3, 4, 5, 6, 7, 8, 9, 10, 11, 12, 13, 14, 15, 16, 17, 18, 1<<32+1)
	for _, rows := range numbers {
		for _, workers := range numbers {
			what := fmt.Sprintf("WorkerRows of %d rows and %d workers", rows, workers)
			got, ok := impl.WorkerRows(rows, workers)
			if !isDividedByRule(rows, workers) {
				wantFailed(t, what, got, ok)
				continue
			}
			wantValue(t, what, textOfResult(got, ok), textOfResult(partsByRule(rows, workers), true))
		}
	}
}

func TestToldWorkerRows(t *testing.T) {
	for _, c := range []struct {
		rows, workers int64
		want          string
	}{
		{1, 1, "[[0 1]]"},
		{16, 1, "[[0 16]]"},
		{2, 2, "[[0 1] [1 1]]"},
		{3, 2, "[[0 2] [2 1]]"},
		{8, 8, "[[0 1] [1 1] [2 1] [3 1] [4 1] [5 1] [6 1] [7 1]]"},
		{16, 8, "[[0 2] [2 2] [4 2] [6 2] [8 2] [10 2] [12 2] [14 2]]"},
		{9, 8, "[[0 2] [2 1] [3 1] [4 1] [5 1] [6 1] [7 1] [8 1]]"},
		{15, 8, "[[0 2] [2 2] [4 2] [6 2] [8 2] [10 2] [12 2] [14 1]]"},
		{16, 7, "[[0 3] [3 3] [6 2] [8 2] [10 2] [12 2] [14 2]]"},
		{16, 5, "[[0 4] [4 3] [7 3] [10 3] [13 3]]"},
		{7, 3, "[[0 3] [3 2] [5 2]]"},
	} {
		got, ok := impl.WorkerRows(c.rows, c.workers)
		wantOk(t, "WorkerRows", fmt.Sprint(got), ok, c.want)
	}
	for _, c := range [][2]int64{{0, 0}, {0, 1}, {1, 0}, {1, 2}, {7, 8}, {8, 9}, {9, 9}, {16, 9}, {16, 16}, {16, 17}, {17, 1}, {17, 8}, {-1, -1}} {
		got, ok := impl.WorkerRows(c[0], c[1])
		wantFailed(t, fmt.Sprint("WorkerRows of ", c), got, ok)
	}
}

// Bits that are told have been computed apart from this program, in another
// language, which goes back through the layers without a tape.
func TestWorkerGradientsWithToldBits(t *testing.T) {
	lists, losses, ok := toldShared(impl.ReduceLine).own()
	wantNumbersOk(t, "the losses of workers", losses, ok, numbersOf([]uint32{0x3f0a5187, 0x3e631229, 0x400b107b, 0x3db25009, 0x3f343fd3, 0x3ee8e3f8, 0x3fa3ed92, 0x3cf284cc}))
	wantValue(t, "how many workers", len(lists), 8)
	for i, bits := range [][]uint32{
		{0x3e09ded6, 0xbeb33b49, 0x3eb97070, 0x3e4d4c42, 0x3ec88804, 0x3d98c928, 0x3e89ded6, 0x3dce279f, 0x3e3efb72, 0x3e7d2e27, 0x3f440570, 0xbcd7b293, 0xbd45c7a1, 0x3e97100c, 0xbd7c5a3a, 0x3e1a629a, 0xbee5bd7a, 0x3dc431f4, 0x3ddc3ee2, 0xbdcaf306},
		{0xbebeaff7, 0x3d8c81a8, 0x3e7e9661, 0xbd3b973a, 0xbc7e9cc7, 0x3d3459b8, 0xbe48b93a, 0x3e05fe4e, 0x3cd42d50, 0xbdb1006d, 0x3ee0641b, 0xbcf36127, 0x3da855cc, 0x3e81753a, 0xbe22525d, 0xbd810dcc, 0xbe467f58, 0xbd7ba129, 0x3e4ebb11, 0xbdcbf280},
		{0x3f79fcad, 0xc03aadba, 0xbe63f370, 0x3f6ee5c2, 0x3c77449f, 0x3e0bd2fe, 0x3fa25449, 0xbe58fd94, 0x3d932ef1, 0x40002a93, 0x3cf209ec, 0xbdaa62e9, 0x3da76d8b, 0x3c59cf3c, 0xbd0b93bb, 0x3f92c038, 0xbc821af8, 0x3f1bcc69, 0x3d58f8f9, 0x3ed6152c},
		{0x3ed302d7, 0x3e5f6c6a, 0, 0, 0, 0, 0xbe783f93, 0, 0, 0xbde631a3, 0, 0, 0x3c99df6f, 0, 0, 0xbd8b5816, 0, 0, 0x3d09243b, 0xbdf8629b},
		{0x3f80904c, 0xbfa4545a, 0xbe7e36b4, 0x3ea277a7, 0, 0, 0x3f41542d, 0xbe3f235b, 0, 0x3f714f3c, 0xbe9e1939, 0, 0x3d3ee674, 0x3ccceaf7, 0, 0x3f09d256, 0x3e93f115, 0, 0x3cfccc38, 0x3eb68249},
		{0, 0, 0x3e37e263, 0x3f142109, 0x3e2a9b95, 0x3f096f1c, 0, 0x3e4c50e0, 0x3e3d906d, 0, 0x3f1a7a39, 0xbe983579, 0, 0x3e55359f, 0xbf26ee8c, 0, 0xbebe61c7, 0x3f950f20, 0x3e0fe030, 0xbe8078b5},
		{0xbfba1720, 0x3ed5996f, 0x3f45d49b, 0xbe631334, 0, 0, 0xbf21d154, 0x3eac06ca, 0, 0xbeda4e88, 0x3fa9b443, 0, 0x3e88f46d, 0x3f223841, 0, 0xbe940339, 0xbf2f5144, 0, 0x3ea7cbad, 0xbeb557f0},
		{0x3dfcde26, 0xbdfcde26, 0xbbb4eabb, 0x3bb4eabb, 0, 0, 0x3dfa5d38, 0xbbb3202b, 0, 0x3dc348b6, 0xbbf823e5, 0, 0x3d4f7e44, 0x3d153b2a, 0, 0x3d415b33, 0x3d0b104d, 0, 0x3d5bd946, 0x3d4cdeb5},
	} {
		wantNumbersOk(t, "the gradients of worker "+impl.Decimal(int64(i)), lists[i], ok, numbersOf(bits))
	}
}

// scaled has a model of one scale layer, rows of one number each and goals of
// 0. The gradient of a row is its product with itself and w, divided by half
// the number of all rows.
func scaled(w float32, workers int64, rows ...float32) sharedArguments {
	m := model(layer(impl.LayerScale, 1, 1, []float32{w}, nil))
	count := int64(len(rows))
	return sharedArguments{m, tensor(count, 1, rows...), tensor(count, 1, filled(len(rows), 0)...), workers, impl.ReduceLine, 0.5}
}

func TestWorkerGradientsOfToldRows(t *testing.T) {
	const great = 1 << 63
	for _, c := range []struct {
		name              string
		arguments         sharedArguments
		gradients, losses []float32
	}{
		{"one row each", scaled(2, 4, 1, 2, 3, 4), []float32{1, 4, 9, 16}, []float32{1, 4, 9, 16}},
		{"two rows each", scaled(2, 2, 1, 2, 3, 4), []float32{5, 25}, []float32{5, 25}},
		{"two rows and one each", scaled(1, 3, 1, 2, 3, 4), []float32{2.5, 4.5, 8}, []float32{1.25, 2.25, 4}},
		{"one worker", scaled(2, 1, 1, 2, 3, 4), []float32{30}, []float32{30}},
		{"an infinite loss of one", scaled(2, 4, 1, great, 3, 1), []float32{1, great * great, 9, 1}, []float32{1, infinity, 9, 1}},
		{"an infinite gradient and loss of one", scaled(2, 4, 1, 2*great, 3, 1), []float32{1, infinity, 9, 1}, []float32{1, infinity, 9, 1}},
		{"an infinity in one row", scaled(2, 2, infinity, 1), []float32{infinity, 2}, []float32{infinity, 2}},
		{"an infinity below in one row", scaled(-2, 2, 1, -infinity), []float32{-2, -infinity}, []float32{2, infinity}},
		{"a not-a-number in one row", scaled(2, 2, 1, nan), []float32{2, nan}, []float32{2, nan}},
		{"one in the first of two rows", scaled(2, 2, nan, 1, 1, 2), []float32{nan, 5}, []float32{nan, 5}},
		{"a weight that is none", scaled(nan, 2, 1, 0), []float32{nan, nan}, []float32{nan, nan}},
		{"a weight of -0", scaled(minusZero, 2, 1, 2), []float32{0, 0}, []float32{0, 0}},
		{"an infinite weight and a row of 0", scaled(infinity, 2, 1, 0), []float32{infinity, nan}, []float32{infinity, nan}},
		{"rows of zeros", scaled(1, 2, 0, minusZero), []float32{0, 0}, []float32{0, 0}},
	} {
		lists, losses, ok := c.arguments.own()
		var want [][]float32
		for _, g := range c.gradients {
			want = append(want, []float32{g})
		}
		wantListsOk(t, "WorkerGradients, "+c.name, lists, ok, want)
		wantNumbersOk(t, "WorkerGradients, "+c.name+": losses", losses, ok, c.losses)
	}
}

// The share of each number is that of all rows, and it is rounded once.
func TestWorkersDivideByAllNumbers(t *testing.T) {
	third := of(0x3eaaaaab)
	lists, losses, ok := scaled(1, 2, 1, 1, 1).own()
	wantListsOk(t, "WorkerGradients of three rows", lists, ok, [][]float32{{4 * third}, {2 * third}})
	wantNumbersOk(t, "WorkerGradients of three rows: losses", losses, ok, []float32{2 * third, third})
	wide := sharedArguments{model: model(layer(impl.LayerScale, 3, 3, []float32{1, 1, 1}, nil)), x: tensor(2, 3, filled(6, 1)...), y: tensor(2, 3, filled(6, 0)...), workers: 2}
	sixth := of(0x3e2aaaab)
	lists, losses, ok = wide.own()
	wantListsOk(t, "WorkerGradients of three columns", lists, ok, [][]float32{filled(3, 2*sixth), filled(3, 2*sixth)})
	wantNumbersOk(t, "WorkerGradients of three columns: losses", losses, ok, []float32{3 * sixth, 3 * sixth})
}

func TestWorkerGradientsOfEachModel(t *testing.T) {
	c := chance(700)
	for name, m := range c.tapedModels() {
		for rows := int64(1); rows <= impl.MaxSide; rows++ {
			for workers := int64(1); workers <= min(rows, impl.MaxWorkers); workers++ {
				numbers := []func(int) []float32{c.smallList, c.mixedList, c.anyList, c.namedList}[c.below(4)]
				a := sharedOf(m, rows, workers, 0, numbers)
				lists, losses, ok := a.own()
				want, wantLosses := a.ownByRule()
				what := fmt.Sprintf("WorkerGradients of %s, %d rows and %d workers", name, rows, workers)
				wantListsOk(t, what, lists, ok, want)
				wantNumbersOk(t, what+": losses", losses, ok, wantLosses)
			}
		}
	}
}

// One worker alone makes the gradients and the loss of the model.
func TestOneWorkerAlone(t *testing.T) {
	c := chance(701)
	for range 3 {
		for name, a := range c.shared() {
			want, wantLoss, _ := impl.ModelGradients(a.model, a.x, a.y)
			a.workers = 1
			lists, losses, ok := a.own()
			wantListsOk(t, "one worker alone with "+name, lists, ok, [][]float32{want})
			wantNumbersOk(t, "one worker alone with "+name+": losses", losses, ok, []float32{wantLoss})
			for _, a.kind = range allReductions() {
				list, loss, ok := a.together()
				wantNumbersOk(t, "shared by one worker alone with "+name, list, ok, want)
				wantNumber(t, "shared by one worker alone with "+name+": loss", loss, wantLoss)
			}
		}
	}
}

// wantNothing requires all functions of workers with a model to fail.
func (a sharedArguments) wantNothing(t *testing.T, what string) {
	t.Helper()
	lists, losses, ok := a.own()
	wantFailed(t, "WorkerGradients with "+what, several{lists, losses}, ok)
	a.wantNotTogether(t, what)
}

func (a sharedArguments) wantNotTogether(t *testing.T, what string) {
	t.Helper()
	list, loss, ok := a.together()
	wantFailed(t, "SharedGradients with "+what, several{list, loss}, ok)
	m, ok := a.step()
	wantFailed(t, "SharedStep with "+what, m, ok)
}

func TestOtherNumbersOfWorkers(t *testing.T) {
	c := chance(702)
	for name, m := range c.tapedModels() {
		for _, rows := range []int64{1, 2, 7, 8, 9, 16} {
			a := sharedOf(m, rows, 1, int64(c.below(3)), c.smallList)
			for _, a.workers = range append(anyIntegers(), -2, 3, 4, 5, 6, 7, 8, 9, 10, 16, 17, 1<<32+1) {
				what := fmt.Sprintf("%s, %d rows and %d workers", name, rows, a.workers)
				if !isDividedByRule(rows, a.workers) {
					a.wantNothing(t, what)
					continue
				}
				_, _, ok := a.own()
				wantValue(t, "WorkerGradients with "+what, ok, true)
			}
		}
	}
}

func TestModelsThatWorkersCannotTake(t *testing.T) {
	c := chance(703)
	for name, broken := range brokenModels() {
		for size := int64(1); size <= 3; size++ {
			for workers := int64(1); workers <= 2; workers++ {
				sharedArguments{broken, c.smallTensor(2, size), c.smallTensor(2, size), workers, 0, 0.5}.wantNothing(t, name)
				sharedArguments{broken, c.smallTensor(2, size), c.smallTensor(2, 1), workers, 1, 0.5}.wantNothing(t, name)
			}
		}
	}
	for _, kind := range []int64{impl.LayerTanh, impl.LayerSoftmax, impl.LayerNorm} {
		for place := range 3 {
			layers := []impl.Layer{c.smallLayer(0, 2, 2), c.smallLayer(1, 2, 2), c.smallLayer(2, 2, 2)}
			layers[place] = c.smallLayer(kind, 2, 2)
			for workers := int64(1); workers <= 4; workers++ {
				sharedOf(model(layers...), 4, workers, 2, c.smallList).wantNothing(t, "another kind of layer")
			}
		}
	}
}

func TestTensorsThatDoNotFitWorkers(t *testing.T) {
	c := chance(704)
	for name, m := range c.tapedModels() {
		for workers := int64(1); workers <= 2; workers++ {
			valid := sharedOf(m, 4, workers, int64(c.below(3)), c.smallList)
			for columns := int64(1); columns <= 9; columns++ {
				other := valid
				if other.x = c.smallTensor(4, columns); columns != valid.x.Columns {
					other.wantNothing(t, name+" and other columns of x")
				}
				other = valid
				if other.y = c.smallTensor(4, columns); columns != valid.y.Columns {
					other.wantNothing(t, name+" and other columns of y")
				}
			}
			for _, rows := range []int64{1, 2, 3, 5, 8, 16} {
				other := valid
				other.x = c.smallTensor(rows, valid.x.Columns)
				other.wantNothing(t, name+" and other rows of x")
				other = valid
				other.y = c.smallTensor(rows, valid.y.Columns)
				other.wantNothing(t, name+" and other rows of y")
			}
			for kind, broken := range brokenTensors() {
				other := valid
				other.x = broken
				other.wantNothing(t, name+" and x: "+kind)
				other.y = broken
				other.wantNothing(t, name+" and both: "+kind)
				other.x = valid.x
				other.wantNothing(t, name+" and y: "+kind)
			}
		}
	}
}
