package tests

import (
	"math"
	"runtime"
	"slices"
	"strings"
	"testing"
	"time"

	"loop.example/g01157/impl"
)

func allReductions() []int64 { return []int64{impl.ReduceLine, impl.ReduceTree, impl.ReduceRing} }

func otherReductions() []int64 {
	return []int64{-1, 3, 4, -2, 255, 256, 1 << 32, 1<<32 + 1, math.MaxInt64, math.MinInt64}
}

// partsByRule deals all rows out, one by one, which gives the first workers
// one more if some are left over.
func partsByRule(rows, workers int64) [][]int64 {
	parts := make([][]int64, workers)
	for i := range parts {
		parts[i] = []int64{0, 0}
	}
	for row := range rows {
		parts[row%workers][1]++
	}
	for i := 1; i < len(parts); i++ {
		parts[i][0] = parts[i-1][0] + parts[i-1][1]
	}
	return parts
}

func isDividedByRule(rows, workers int64) bool {
	return rows >= 1 && rows <= 16 && workers >= 1 && workers <= 8 && workers <= rows
}

// sharedArguments are what the functions of workers with a model take.
type sharedArguments struct {
	model         impl.Model
	x, y          impl.Tensor
	workers, kind int64
	rate          float32
}

func (a sharedArguments) own() ([][]float32, []float32, bool) {
	return impl.WorkerGradients(a.model, a.x, a.y, a.workers)
}

func (a sharedArguments) together() ([]float32, float32, bool) {
	return impl.SharedGradients(a.model, a.x, a.y, a.workers, a.kind)
}

func (a sharedArguments) step() (impl.Model, bool) {
	return impl.SharedStep(a.model, a.x, a.y, a.workers, a.kind, a.rate)
}

// ownByRule takes the operations that the document lists for each worker's
// rows, and goes back over them with its table.
func (a sharedArguments) ownByRule() (lists [][]float32, losses []float32) {
	for _, part := range partsByRule(a.x.Rows, a.workers) {
		var rows []int64
		for i := range part[1] {
			rows = append(rows, part[0]+i)
		}
		tape, weights := modelTapeByRule(a.model, rowsByRule(a.x, rows), rowsByRule(a.y, rows))
		tape[len(tape)-1].Number = 1 / float32(a.y.Rows*a.y.Columns)
		gradients, list := gradientsByRule(tape), []float32{}
		for _, index := range weights {
			list = append(list, gradients[index].data...)
		}
		values := valuesByRule[float32](tape)
		lists, losses = append(lists, list), append(losses, values[len(values)-1].data[0])
	}
	return lists, losses
}

func (a sharedArguments) togetherByRule() ([]float32, float32) {
	lists, losses := a.ownByRule()
	return reducedByRule(a.kind, lists), reducedPlace(a.kind, 0, losses)
}

func (a sharedArguments) stepByRule() impl.Model {
	params := paramsByRule(a.model)
	gradients, _ := a.togetherByRule()
	for i, g := range gradients {
		product := float32(a.rate * g)
		params[i] = params[i] - product
	}
	return withParamsByRule(a.model, params)
}

// reducedPlace is the text of the document for the numbers at one place of all
// lists.
func reducedPlace(kind int64, place int, numbers []float32) float32 {
	count := len(numbers)
	switch kind {
	case impl.ReduceTree:
		// Each level has its numbers where the ones before it stood.
		level := slices.Clone(numbers)
		for count > 1 {
			for i := 0; i < count/2; i++ {
				level[i] = level[2*i] + level[2*i+1]
			}
			if count%2 == 1 {
				level[count/2] = level[count-1]
			}
			count = (count + 1) / 2
		}
		return level[0]
	case impl.ReduceRing:
		sum := numbers[place%count]
		for step := 1; step < count; step++ {
			sum = sum + numbers[(place+step)%count]
		}
		return sum
	}
	sum := numbers[0]
	for i := 1; i < count; i++ {
		sum = sum + numbers[i]
	}
	return sum
}

func reducedByRule(kind int64, lists [][]float32) []float32 {
	sums := make([]float32, len(lists[0]))
	for place := range sums {
		var numbers []float32
		for _, list := range lists {
			numbers = append(numbers, list[place])
		}
		sums[place] = reducedPlace(kind, place, numbers)
	}
	return sums
}

// sharedOf has rows that fit m, with numbers that list makes.
func sharedOf(m impl.Model, rows, workers, kind int64, list func(count int) []float32) sharedArguments {
	fit := fitted(m, rows, list)
	return sharedArguments{m, fit.x, fit.y, workers, kind, list(1)[0]}
}

// shared has arguments for each model that has a tape, of each sort of numbers,
// with any rows and any workers.
func (c *chance) shared() map[string]sharedArguments {
	list := map[string]sharedArguments{}
	for name, m := range c.tapedModels() {
		for i, numbers := range []func(int) []float32{c.smallList, c.mixedList, c.anyList, c.namedList, c.tinyList} {
			rows := int64(1 + c.below(impl.MaxSide))
			workers := int64(1 + c.below(int(min(rows, impl.MaxWorkers))))
			if i%2 == 1 {
				m = withNumbers(m, numbers)
			}
			list[name+" "+impl.Decimal(int64(i))] = sharedOf(m, rows, workers, int64(c.below(3)), numbers)
		}
	}
	return list
}

// toldShared has the net of toldNet, and eight workers, the first three of
// which have two of the rows each.
func toldShared(kind int64) sharedArguments {
	return sharedArguments{
		model: toldNet().model, workers: 8, kind: kind, rate: 0.3,
		x: tensor(11, 2, 0.5, -1.3, 2.1, 0.4, -0.6, 1.7, 1.9, -0.35, 0.77, -2.3, 0.21, 1.9, -1.7, -0.9, 1.33, -1.7, 0.9, 2.9, 2.3, -0.66, 1.01, -1.01),
		y: tensor(11, 2, 1, 0.3, -0.2, 0.7, 0.9, -1.1, -0.45, 0.8, 0.3, -3.3, 1.7, 0.6, -0.1, 2.2, 0.7, -1.9, 1.3, 0.4, -2.1, 3.7, 0.2, 0.5),
	}
}

func wantListsOk(t *testing.T, what string, got [][]float32, ok bool, want [][]float32) {
	t.Helper()
	wantValue(t, what+": success", ok, true)
	wantValue(t, what, textOfResult(got), textOfResult(want))
}

// servedArguments are what a server takes.
type servedArguments struct {
	model            impl.Model
	requests         []impl.Request
	size, wait, work int64
}

func (a servedArguments) serve() ([]impl.Answer, bool) {
	return impl.ServeRequests(a.model, a.requests, a.size, a.wait, a.work)
}

func requestsAt(row []float32, ticks ...int64) []impl.Request {
	var list []impl.Request
	for _, tick := range ticks {
		list = append(list, impl.Request{At: tick, Row: row})
	}
	return list
}

// doubled makes twice its one number.
func doubled() impl.Model { return model(layer(impl.LayerScale, 1, 1, []float32{2}, nil)) }

// doubling has requests to doubled, whose rows are 0, 1, 2 and so on.
func doubling(size, wait, work int64, ticks ...int64) servedArguments {
	requests := requestsAt(nil, ticks...)
	for i := range requests {
		requests[i].Row = []float32{float32(i)}
	}
	return servedArguments{doubled(), requests, size, wait, work}
}

// byRule lets tick after tick pass, and looks at each one at what the text of
// the document asks for.
func (a servedArguments) byRule() []impl.Answer {
	var answers []impl.Answer
	var waiting []impl.Request
	come, number, freeFrom := 0, int64(0), int64(0)
	for tick := int64(0); len(answers) < len(a.requests); tick++ {
		for come < len(a.requests) && a.requests[come].At == tick {
			waiting = append(waiting, a.requests[come])
			come++
		}
		isFree := tick >= freeFrom
		isFull := int64(len(waiting)) >= a.size
		isLate := len(waiting) > 0 && tick-waiting[0].At >= a.wait
		if !isFree || !isFull && !isLate {
			continue
		}
		for taken := int64(0); taken < a.size && len(waiting) > 0; taken++ {
			stages := stagesByRule(a.model, waiting[0].Row)
			answers = append(answers, impl.Answer{At: tick + a.work, Batch: number, Row: stages[len(stages)-1]})
			waiting = waiting[1:]
		}
		number++
		freeFrom = tick + a.work
	}
	return answers
}

func (a servedArguments) check(t *testing.T, what string) {
	t.Helper()
	got, ok := a.serve()
	wantAnswersOk(t, "ServeRequests, "+what, got, ok, a.byRule())
}

func wantAnswersOk(t *testing.T, what string, got []impl.Answer, ok bool, want []impl.Answer) {
	t.Helper()
	wantValue(t, what+": success", ok, true)
	wantValue(t, what, textOfResult(got), textOfResult(want))
}

func (a servedArguments) wantFailed(t *testing.T, what string) {
	t.Helper()
	got, ok := a.serve()
	wantFailed(t, "ServeRequests, "+what, got, ok)
}

// ticks has ticks in order, with gaps of 0 to most.
func (c *chance) ticks(count, most int) []int64 {
	list := make([]int64, count)
	tick := int64(0)
	for i := range list {
		tick += int64(c.below(most + 1))
		list[i] = tick
	}
	return list
}

// served has requests with rows that fit m, and numbers that list makes. All
// gaps are small, so that many things happen at one tick.
func (c *chance) served(m impl.Model, count int, list func(count int) []float32) servedArguments {
	requests := requestsAt(nil, c.ticks(count, 1+c.below(6))...)
	for i := range requests {
		requests[i].Row = list(int(m.Layers[0].In))
	}
	return servedArguments{m, requests, int64(1 + c.below(7)), int64(c.below(9)), int64(1 + c.below(9))}
}

// answersWith has answers with these batches.
func answersWith(batches ...int64) []impl.Answer {
	var list []impl.Answer
	for i, number := range batches {
		list = append(list, impl.Answer{At: int64(i), Batch: number, Row: []float32{1}})
	}
	return list
}

// answersAt has answers at these ticks.
func answersAt(ticks ...int64) []impl.Answer {
	var list []impl.Answer
	for _, tick := range ticks {
		list = append(list, impl.Answer{At: tick, Row: []float32{1}})
	}
	return list
}

// tableByRule counts the outputs of all rows one after another.
func tableByRule(m impl.Model, x impl.Tensor, labels []int64) [][]int64 {
	outputs := m.Layers[len(m.Layers)-1].Out
	table := make([][]int64, outputs)
	for label := range table {
		table[label] = make([]int64, outputs)
	}
	for row := range x.Rows {
		stages := stagesByRule(m, rowTensor(x, row).Data)
		made, at := stages[len(stages)-1], 0
		for i := 1; i < len(made); i++ {
			if made[i] > made[at] {
				at = i
			}
		}
		table[labels[row]][at]++
	}
	return table
}

func (c *chance) labels(rows, outputs int64) []int64 {
	list := make([]int64, rows)
	for i := range list {
		list[i] = int64(c.below(int(outputs)))
	}
	return list
}

// wantNoGoroutines requires that no goroutine of the program is left. One that
// has told that it is done may need a moment to end.
func wantNoGoroutines(t *testing.T, what string) {
	t.Helper()
	stacks := make([]byte, 1<<20)
	isLeft := true
	for try := 0; isLeft && try < 2000; try++ {
		count := runtime.Stack(stacks, true)
		isLeft = strings.Contains(string(stacks[:count]), "g01157/impl.")
		if isLeft {
			time.Sleep(time.Millisecond)
		}
	}
	wantValue(t, what+": a goroutine is left", isLeft, false)
}
