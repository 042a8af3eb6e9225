package tests

import (
	"fmt"
	"math"
	"runtime"
	"slices"
	"sync"
	"testing"

	"loop.example/g01157/impl"
)

func TestExamplesOfChapter10(t *testing.T) {
	rows, ok := impl.WorkerRows(5, 2)
	wantOk(t, "5 rows and 2 workers", fmt.Sprint(rows), ok, "[[0 3] [3 2]]")
	for _, kind := range allReductions() {
		sums, ok := impl.ReduceLists(kind, [][]float32{{1, 2}, {0.5, 1}, {4, 8}})
		wantNumbersOk(t, "three lists", sums, ok, []float32{5.5, 11})
	}
	answers, ok := doubling(2, 4, 3, 0, 1, 9).serve()
	wantAnswersOk(t, "requests at 0, 1 and 9", answers, ok, []impl.Answer{{At: 4, Row: []float32{0}}, {At: 4, Row: []float32{2}}, {At: 16, Batch: 1, Row: []float32{4}}})
}

// Each request gets what the model makes of its row alone, in whatever batch
// and place it is.
func TestRequestsAreAnsweredAsIfAlone(t *testing.T) {
	c := chance(750)
	for name, m := range c.models() {
		for _, numbers := range []func(int) []float32{c.smallList, c.mixedList, c.anyList, c.namedList, c.tinyList} {
			a := c.served(m, impl.MaxRequests, numbers)
			answers, ok := a.serve()
			wantValue(t, "ServeRequests of "+name, ok, true)
			for i, request := range a.requests {
				made, ok := impl.RunModel(m, tensor(1, m.Layers[0].In, request.Row...))
				wantNumbersOk(t, "an answer of "+name, answers[i].Row, ok, made.Data)
				alone := a
				alone.requests = []impl.Request{request}
				single, ok := alone.serve()
				wantValue(t, "a request alone of "+name, ok, true)
				wantNumbersOk(t, "a request alone of "+name, single[0].Row, ok, answers[i].Row)
			}
			// Other rows in the same batches change no answer.
			other := a
			other.requests = slices.Clone(a.requests)
			place := c.below(impl.MaxRequests)
			other.requests[place].Row = c.anyList(int(m.Layers[0].In))
			changed, _ := other.serve()
			changed[place].Row = answers[place].Row
			wantAnswersOk(t, "the other answers of "+name, changed, true, answers)
		}
	}
}

// Where no sum is rounded, workers make the step of one worker, in each order.
func TestSharedStepsWithoutRoundingAreThoseOfOneWorker(t *testing.T) {
	c := chance(751)
	checked := 0
	for range 400 {
		m := c.wholeModel()
		rows := int64(1 << c.below(5))
		in, out := m.Layers[0].In, m.Layers[len(m.Layers)-1].Out
		a := sharedArguments{model: m, x: c.wholeTensor(rows, in), y: c.wholeTensor(rows, out), rate: 0.25}
		want, wantLoss, _ := impl.ModelGradients(m, a.x, a.y)
		if slices.ContainsFunc(append(slices.Clone(want), wantLoss), func(x float32) bool { return math.Abs(float64(x)) > 1<<16 }) {
			continue
		}
		for a.workers = 1; a.workers <= min(rows, impl.MaxWorkers); a.workers++ {
			for _, a.kind = range allReductions() {
				list, loss, ok := a.together()
				wantValue(t, "SharedGradients: success", ok, true)
				wantNumber(t, "the loss of workers", loss, wantLoss)
				for i, g := range list {
					// Zeros may differ in their sign.
					wantValue(t, "a gradient of workers", g, want[i])
				}
				checked++
			}
		}
	}
	wantValue(t, "many steps", checked > 1000, true)
}

// Rows of one worker change nothing of what the others make.
func TestWorkersMakeGradientsOfTheirRowsAlone(t *testing.T) {
	c := chance(752)
	for name, a := range c.shared() {
		lists, losses, _ := a.own()
		parts, _ := impl.WorkerRows(a.x.Rows, a.workers)
		changed := c.below(len(parts))
		first, count := parts[changed][0], parts[changed][1]
		other := a
		for row := first; row < first+count; row++ {
			for column := range a.x.Columns {
				other.x = withNumber(other.x, row, column, c.mixedList(1)[0])
			}
			other.y = withNumber(other.y, row, 0, c.small())
		}
		otherLists, otherLosses, _ := other.own()
		for i := range lists {
			if i != changed {
				wantNumbersOk(t, "another worker of "+name, otherLists[i], true, lists[i])
				wantNumber(t, "the loss of another worker of "+name, otherLosses[i], losses[i])
			}
		}
	}
}

// workerArguments are what the functions of chapter 10 take.
type workerArguments struct {
	sharedArguments
	served   servedArguments
	lists    [][]float32
	models   []impl.Model
	answers  []impl.Answer
	labels   []int64
	rows, of int64
}

type workerCall func(a workerArguments) (several, bool)

// workerCalls has the functions of chapter 10.
func workerCalls() map[string]workerCall {
	one := func(result any, ok bool) (several, bool) { return several{result}, ok }
	return map[string]workerCall{
		"WorkerRows":      func(a workerArguments) (several, bool) { return one(first(impl.WorkerRows(a.rows, a.of))) },
		"WorkerGradients": func(a workerArguments) (several, bool) { return pair(a.own()) },
		"ReduceLists":     func(a workerArguments) (several, bool) { return one(first(impl.ReduceLists(a.kind, a.lists))) },
		"SharedGradients": func(a workerArguments) (several, bool) { return pair(a.together()) },
		"SharedStep":      func(a workerArguments) (several, bool) { return one(first(a.step())) },
		"AreInSync":       func(a workerArguments) (several, bool) { return one(impl.AreInSync(a.models), true) },
		"ServeRequests":   func(a workerArguments) (several, bool) { return one(first(a.served.serve())) },
		"BatchSizes":      func(a workerArguments) (several, bool) { return one(first(impl.BatchSizes(a.answers))) },
		"LongestDelay": func(a workerArguments) (several, bool) {
			return one(first(impl.LongestDelay(a.served.requests, a.answers)))
		},
		"ConfusionOf": func(a workerArguments) (several, bool) {
			return one(first(impl.ConfusionOf(a.model, a.x, a.labels)))
		},
		"CountLabels": func(a workerArguments) (several, bool) {
			return one(first(impl.CountLabels(a.model, a.x, a.labels)))
		},
	}
}

// roomyRequests returns a copy of requests with unused capacity everywhere.
func roomyRequests(requests []impl.Request) []impl.Request {
	list := make([]impl.Request, 0, len(requests)+5)
	for _, r := range requests {
		list = append(list, impl.Request{At: r.At, Row: roomyList(r.Row)})
	}
	unused := list[len(list):cap(list)]
	for i := range unused {
		unused[i] = impl.Request{At: 7, Row: []float32{9}}
	}
	return list
}

func roomyAnswers(answers []impl.Answer) []impl.Answer {
	list := make([]impl.Answer, 0, len(answers)+5)
	for _, answer := range answers {
		list = append(list, impl.Answer{At: answer.At, Batch: answer.Batch, Row: roomyList(answer.Row)})
	}
	unused := list[len(list):cap(list)]
	for i := range unused {
		unused[i] = impl.Answer{At: 7, Batch: 8, Row: []float32{9}}
	}
	return list
}

func roomyModels(models []impl.Model) []impl.Model {
	list := make([]impl.Model, 0, len(models)+3)
	for _, m := range models {
		list = append(list, roomyModel(m))
	}
	unused := list[len(list):cap(list)]
	for i := range unused {
		unused[i] = doubled()
	}
	return list
}

// roomyWorkers returns a copy of a with unused capacity everywhere.
func roomyWorkers(a workerArguments) workerArguments {
	a.model, a.x, a.y = roomyModel(a.model), roomy(a.x), roomy(a.y)
	a.served.model, a.served.requests = roomyModel(a.served.model), roomyRequests(a.served.requests)
	a.lists, a.models, a.answers = roomySlots(a.lists), roomyModels(a.models), roomyAnswers(a.answers)
	a.labels = roomyIntegers(a.labels)
	return a
}

// rawWorkers shows all of a, with its unused capacity.
func rawWorkers(a workerArguments) string {
	text := modelText(a.model) + modelText(a.served.model) + rawStep(stepArguments{params: a.x.Data, gradients: a.y.Data, slots: a.lists})
	for _, m := range a.models[:cap(a.models)] {
		text += modelText(m)
	}
	for _, r := range a.served.requests[:cap(a.served.requests)] {
		text += textOfResult(r, rawBits(r.Row))
	}
	for _, answer := range a.answers[:cap(a.answers)] {
		text += textOfResult(answer, rawBits(answer.Row))
	}
	return text + textOfResult(a.x, a.y, rawIntegers(a.labels))
}

// workersOf has arguments that are made of those of workers.
func (c *chance) workersOf(shared sharedArguments) workerArguments {
	count := 1 + c.below(impl.MaxWorkers)
	a := workerArguments{sharedArguments: shared, rows: int64(c.below(18)), of: int64(c.below(10)), models: copiesOf(shared.model, count)}
	length := []int{0, 1, 3, 512}[c.below(4)]
	for range count {
		a.lists = append(a.lists, c.mixedList(length))
	}
	a.served = c.served(shared.model, c.below(impl.MaxRequests+1), c.mixedList)
	a.answers = a.served.byRule()
	a.labels = c.labels(shared.x.Rows, shared.y.Columns)
	return a
}

// someWorkers has arguments with which the functions succeed, and others.
func (c *chance) someWorkers() map[string]workerArguments {
	list := map[string]workerArguments{}
	for name, shared := range c.shared() {
		list[name] = c.workersOf(shared)
	}
	net := c.workersOf(toldShared(impl.ReduceRing))
	for name, broken := range brokenModels() {
		other := net
		other.model, other.served.model = broken, broken
		other.models = []impl.Model{net.model, broken}
		list["broken: "+name] = other
	}
	for name, broken := range brokenTensors() {
		other := net
		other.x = broken
		list["x: "+name] = other
		other.y = broken
		list["both: "+name] = other
	}
	change := func(name string, change func(a *workerArguments)) {
		other := roomyWorkers(net)
		change(&other)
		list[name] = other
	}
	change("another kind", func(a *workerArguments) { a.kind = 3 })
	change("too many workers", func(a *workerArguments) { a.workers = 9 })
	change("no workers", func(a *workerArguments) { a.workers = 0 })
	change("lists of other lengths", func(a *workerArguments) { a.lists = [][]float32{{1}, {1, 2}} })
	change("many lists", func(a *workerArguments) { a.lists = slices.Repeat(a.lists[:1], 9) })
	change("many models", func(a *workerArguments) { a.models = slices.Repeat(a.models[:1], 9) })
	change("many requests and answers", func(a *workerArguments) {
		a.served.requests = requestsAt([]float32{1, 2}, make([]int64, 21)...)
		a.answers = answersWith(make([]int64, 21)...)
	})
	change("a tick that goes back", func(a *workerArguments) { a.served.requests = requestsAt([]float32{1, 2}, 3, 2) })
	change("a row that does not fit", func(a *workerArguments) { a.served.requests = requestsAt([]float32{1, 2, 3}, 3, 4) })
	change("a batch that jumps", func(a *workerArguments) { a.answers = answersWith(0, 2) })
	change("a batch before the first", func(a *workerArguments) { a.answers = answersWith(-1) })
	change("a label that is none", func(a *workerArguments) { a.labels[3] = 2 })
	change("a label too few", func(a *workerArguments) { a.labels = a.labels[:10] })
	shared := c.smallList(4)
	scale := layer(impl.LayerScale, 2, 2, shared[1:3], nil)
	square := dense(2, 2, shared, shared[:2])
	same := sharedArguments{model(square, scale, square), tensor(2, 2, shared...), tensor(2, 2, shared...), 2, impl.ReduceTree, 0.5}
	row := impl.Request{At: 3, Row: shared[2:]}
	list["one list in several places"] = workerArguments{
		sharedArguments: same, served: servedArguments{same.model, []impl.Request{row, row, row}, 2, 3, 4}, lists: [][]float32{shared, shared, shared},
		models: []impl.Model{same.model, same.model}, answers: []impl.Answer{{At: 5, Row: shared}, {At: 6, Row: shared}, {At: 7, Batch: 1, Row: shared}}, labels: []int64{0, 1}, rows: 3, of: 2,
	}
	return list
}

func TestArgumentsOfWorkersAreNotChanged(t *testing.T) {
	c := chance(753)
	for name, tight := range c.someWorkers() {
		arguments := roomyWorkers(tight)
		before, beforeTight := rawWorkers(arguments), rawWorkers(tight)
		for function, call := range workerCalls() {
			checkCall(t, function+" of "+name, func() (several, bool) { return call(arguments) })
			checkCall(t, function+" of "+name, func() (several, bool) { return call(tight) })
			got, ok := call(arguments)
			want, wantOk := call(tight)
			wantValue(t, function+" with unused capacity of "+name, textOfResult(got, ok), textOfResult(want, wantOk))
		}
		wantValue(t, "the arguments of "+name, rawWorkers(arguments), before)
		wantValue(t, "the arguments without capacity of "+name, rawWorkers(tight), beforeTight)
	}
	wantNoGoroutines(t, "the functions of chapter 10")
}

// numberLists has all lists of numbers of a.
func (a workerArguments) numberLists() [][]float32 {
	parts := append(paramLists(a.model), a.x.Data, a.y.Data)
	parts = append(append(parts, paramLists(a.served.model)...), a.lists...)
	for _, m := range a.models {
		parts = append(parts, paramLists(m)...)
	}
	for _, r := range a.served.requests {
		parts = append(parts, r.Row)
	}
	for _, answer := range a.answers {
		parts = append(parts, answer.Row)
	}
	return parts
}

func rowsOf(answers []impl.Answer) (rows [][]float32) {
	for _, answer := range answers {
		rows = append(rows, answer.Row)
	}
	return rows
}

func TestSlicesOfWorkersAreApart(t *testing.T) {
	c := chance(754)
	for name, arguments := range c.someWorkers() {
		a := roomyWorkers(arguments)
		for range 2 {
			own, losses, _ := a.own()
			reduced, _ := impl.ReduceLists(a.kind, a.lists)
			alone, _ := impl.ReduceLists(a.kind, a.lists[:1])
			together, _, _ := a.together()
			made, _ := a.step()
			again, _ := a.step()
			answers, _ := a.served.serve()
			others, _ := a.served.serve()
			results := slices.Concat(own, [][]float32{losses, reduced, alone, together}, paramLists(made), paramLists(again), rowsOf(answers), rowsOf(others))
			wantResultsApart(t, "results of "+name, results, a.numberLists())
			// Without unused capacity, a result could be a part of an argument.
			a = arguments
		}
		table, _ := impl.ConfusionOf(a.model, a.x, a.labels)
		tables, _ := impl.ConfusionOf(a.model, a.x, a.labels)
		rows, _ := impl.WorkerRows(a.rows, a.of)
		otherRows, _ := impl.WorkerRows(a.rows, a.of)
		sizes, _ := impl.BatchSizes(a.answers)
		wantApart(t, "tables of "+name, slices.Concat(table, tables, rows, otherRows, [][]int64{sizes, a.labels}))
	}
}

// The lists of layers and of lists are new ones too.
func TestListsOfWorkersAreApart(t *testing.T) {
	c := chance(755)
	for name, a := range c.someWorkers() {
		before := rawWorkers(a)
		made, _ := a.step()
		again, _ := a.step()
		want := textOfResult(again)
		clear(made.Layers[:cap(made.Layers)])
		wantValue(t, "the layers of "+name, textOfResult(again), want)
		own, _, _ := a.own()
		others, _, _ := a.own()
		want = textOfResult(others)
		clear(own[:cap(own)])
		wantValue(t, "the lists of "+name, textOfResult(others), want)
		answers, _ := a.served.serve()
		otherAnswers, _ := a.served.serve()
		want = textOfResult(otherAnswers)
		clear(answers[:cap(answers)])
		wantValue(t, "the answers of "+name, textOfResult(otherAnswers), want)
		wantValue(t, "the arguments of "+name, rawWorkers(a), before)
	}
}

// All not-a-numbers are one value, so that their other bits change no result.
func TestOtherNotANumbersOfWorkersChangeNoResult(t *testing.T) {
	c := chance(756)
	for name, a := range c.someWorkers() {
		for function, call := range workerCalls() {
			want, wantOk := call(a)
			for _, bits := range []uint32{0xffc00000, 0x7f800001, 0xffffffff} {
				b := roomyWorkers(a)
				for _, list := range b.numberLists() {
					for i, x := range list {
						if isNan(x) {
							list[i] = of(bits)
						}
					}
				}
				if isNan(b.rate) {
					b.rate = of(bits)
				}
				got, ok := call(b)
				wantValue(t, function+" with other bits of "+name, textOfResult(got, ok), textOfResult(want, wantOk))
			}
		}
	}
}

// wantEachTheSame calls each function many times, at once and one after
// another, and requires the results that it has with one processor.
func wantEachTheSame(t *testing.T, name string, a workerArguments) {
	t.Helper()
	for function, call := range workerCalls() {
		processors := runtime.GOMAXPROCS(1)
		result, ok := call(a)
		want := textOfResult(result, ok)
		for _, count := range []int{1, 2, processors, 3 * processors} {
			runtime.GOMAXPROCS(count)
			texts := make([]string, 12)
			var group sync.WaitGroup
			for i := range texts {
				group.Add(1)
				go func() {
					defer group.Done()
					result, ok := call(a)
					texts[i] = textOfResult(result, ok)
				}()
			}
			group.Wait()
			for _, text := range texts {
				wantValue(t, fmt.Sprintf("%s of %s with %d processors", function, name, count), text, want)
			}
		}
		runtime.GOMAXPROCS(processors)
	}
}

func TestWorkersReturnTheSameHoweverTheyAreScheduled(t *testing.T) {
	c := chance(757)
	for name, shared := range c.shared() {
		shared.workers = min(shared.x.Rows, impl.MaxWorkers)
		wantEachTheSame(t, name, c.workersOf(shared))
	}
	most := sharedOf(c.tapedModels()["the most dense"], impl.MaxSide, impl.MaxWorkers, impl.ReduceRing, c.smallList)
	for range 5 {
		wantEachTheSame(t, "the most parameters", c.workersOf(most))
	}
	wantNoGoroutines(t, "many calls at once")
}

// Each function has joined its goroutines when it returns, also if it fails.
func TestNoGoroutineIsLeft(t *testing.T) {
	c := chance(758)
	for name, a := range c.someWorkers() {
		before := runtime.NumGoroutine()
		for function, call := range workerCalls() {
			for range 20 {
				call(a)
			}
			wantNoGoroutines(t, function+" of "+name)
		}
		wantValue(t, "as many goroutines as before "+name, runtime.NumGoroutine() <= before, true)
	}
}

func TestEachFunctionOfWorkersReturnsTheSameForAllIntegers(t *testing.T) {
	integers := append(anyIntegers(), 3, 7, 8, 9, 15, 16, 17, 20, 21, 99999, 100000, 100001, 200000, 200001, -2, 1<<32+1)
	for _, n := range integers {
		for _, m := range integers {
			a := workerArguments{sharedArguments: toldShared(n), rows: n, of: m, served: doubling(n, m, 3, 0, 1, 1), answers: answersWith(n, m), labels: slices.Repeat([]int64{n}, 11)}
			a.lists = [][]float32{{1, 2}, {3, 4}}
			b := workerArguments{sharedArguments: toldShared(0), rows: m, of: 1, served: doubling(2, n, m, 0, 1, 1), answers: answersAt(n, m), labels: []int64{n, m}}
			b.workers, b.x.Rows, b.y.Rows = n, m, m
			d := workerArguments{sharedArguments: toldShared(1), served: doubling(2, 3, 4, n, m), answers: answersAt(m, n), labels: []int64{m}}
			d.x.Columns, d.y.Columns, d.workers = n, m, 2
			e := workerArguments{sharedArguments: toldShared(2), served: doubling(1, 0, n, 0, m), answers: answersWith(0, n)}
			e.model = model(layer(n, m, m, nil, nil))
			e.served.model, e.models = e.model, []impl.Model{e.model, e.model}
			for name, call := range workerCalls() {
				for i, arguments := range []workerArguments{a, b, d, e} {
					checkCall(t, fmt.Sprintf("%s %d of %d and %d", name, i, n, m), func() (several, bool) { return call(arguments) })
				}
			}
		}
	}
}

func TestEachFunctionOfWorkersReturnsTheSameForAllNumbers(t *testing.T) {
	for _, x := range edges() {
		for _, y := range edges() {
			m := model(dense(2, 2, []float32{x, y, y, 1}, []float32{y, x}), layer(impl.LayerRelu, 2, 2, nil, nil))
			a := workerArguments{
				sharedArguments: sharedArguments{m, tensor(3, 2, x, y, 1, x, y, y), tensor(3, 2, 0, y, x, 1, 1, x), 2, impl.ReduceRing, y},
				served:          servedArguments{m, requestsAt([]float32{y, x}, 1, 2, 3), 2, 4, 5}, answers: answersAt(3, 4, 5),
				lists: [][]float32{{x, y}, {y, x}, {x, 1}}, models: []impl.Model{m, m, m}, labels: []int64{0, 1, 1}, rows: 5, of: 2,
			}
			for name, call := range workerCalls() {
				checkCall(t, name, func() (several, bool) { return call(a) })
			}
		}
	}
}

func TestEachFunctionOfWorkersReturnsTheSameForLongLists(t *testing.T) {
	const length = 100000
	long := filled(length, 1)
	relu := layer(impl.LayerRelu, 1, 1, nil, nil)
	many := model(slices.Repeat([]impl.Layer{relu}, length)...)
	wide := model(dense(1, 1, long, long))
	ticks := make([]int64, length)
	for name, call := range workerCalls() {
		for i, a := range []workerArguments{
			{
				sharedArguments: sharedArguments{many, tensor(1, 1, 1), tensor(1, 1, 1), 1, 0, 1}, served: servedArguments{many, requestsAt([]float32{1}, ticks...), 1, 0, 1},
				lists: slices.Repeat([][]float32{{1}}, length), models: slices.Repeat([]impl.Model{many}, 8), answers: answersAt(ticks...), labels: ticks,
			},
			{
				sharedArguments: sharedArguments{wide, tensor(1, length, long...), tensor(length, 1, long...), 1, 0, 1}, served: servedArguments{doubled(), requestsAt([]float32{1}, ticks...), 1, 0, 1},
				lists: [][]float32{long, long}, models: slices.Repeat([]impl.Model{doubled()}, length), answers: answersWith(ticks...), labels: ticks,
			},
			{
				sharedArguments: scaled(1, 1, 1), served: servedArguments{doubled(), requestsAt(long, 0, 1), 1, 0, 1},
				lists: [][]float32{{1}, long}, models: []impl.Model{doubled(), wide, many}, answers: []impl.Answer{{Row: long}, {Row: long}}, labels: ticks,
			},
		} {
			checkCall(t, fmt.Sprintf("%s %d of long lists", name, i), func() (several, bool) { return call(a) })
		}
	}
}
