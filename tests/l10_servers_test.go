package tests

import (
	"fmt"
	"math"
	"slices"
	"testing"

	"loop.example/g01157/impl"
)

// toldAnswer is the tick of an answer and its batch.
type toldAnswer struct{ at, batch int64 }

func TestServeToldRequests(t *testing.T) {
	for _, c := range []struct {
		name      string
		arguments servedArguments
		want      []toldAnswer
	}{
		{"no requests", doubling(1, 0, 1), nil},
		{"one request, which waits", doubling(2, 4, 3, 5), []toldAnswer{{12, 0}}},
		{"one request, which fills a batch", doubling(1, 4, 3, 5), []toldAnswer{{8, 0}}},
		{"one request at the tick 0", doubling(1, 100000, 1, 0), []toldAnswer{{1, 0}}},
		{"one request without a wait", doubling(16, 0, 1, 7), []toldAnswer{{8, 0}}},
		{"all limits", doubling(16, 100000, 100000, 100000), []toldAnswer{{300000, 0}}},
		{"the example", doubling(2, 4, 3, 0, 1, 9), []toldAnswer{{4, 0}, {4, 0}, {16, 1}}},
		{"requests at one tick, fewer than a batch", doubling(4, 5, 2, 3, 3, 3), []toldAnswer{{10, 0}, {10, 0}, {10, 0}}},
		{"requests at one tick, a batch", doubling(3, 5, 2, 3, 3, 3), []toldAnswer{{5, 0}, {5, 0}, {5, 0}}},
		{"requests at one tick, more than a batch", doubling(2, 5, 2, 3, 3, 3), []toldAnswer{{5, 0}, {5, 0}, {10, 1}}},
		{"requests at one tick, two batches", doubling(2, 5, 4, 3, 3, 3, 3), []toldAnswer{{7, 0}, {7, 0}, {11, 1}, {11, 1}}},
		{"requests at one tick, without a wait", doubling(8, 0, 1, 3, 3, 3), []toldAnswer{{4, 0}, {4, 0}, {4, 0}}},
		{"requests at one tick, one by one", doubling(1, 0, 3, 0, 0, 0), []toldAnswer{{3, 0}, {6, 1}, {9, 2}}},
		{"a request at the tick at which the server becomes free", doubling(2, 0, 5, 1, 6), []toldAnswer{{6, 0}, {11, 1}}},
		{"one a tick before", doubling(2, 0, 5, 1, 5), []toldAnswer{{6, 0}, {11, 1}}},
		{"one a tick later", doubling(2, 0, 5, 1, 7), []toldAnswer{{6, 0}, {12, 1}}},
		{"two at the tick at which the server becomes free", doubling(3, 0, 5, 1, 6, 6), []toldAnswer{{6, 0}, {11, 1}, {11, 1}}},
		{"one at the tick at which the first one has waited long enough", doubling(3, 4, 1, 2, 6), []toldAnswer{{7, 0}, {7, 0}}},
		{"one a tick later than that", doubling(3, 4, 1, 2, 7), []toldAnswer{{7, 0}, {12, 1}}},
		{"a batch that is full at that tick", doubling(2, 4, 1, 2, 6), []toldAnswer{{7, 0}, {7, 0}}},
		{"a batch that is more than full at that tick", doubling(2, 4, 1, 2, 6, 6), []toldAnswer{{7, 0}, {7, 0}, {11, 1}}},
		{"a batch that is full a tick before", doubling(2, 4, 1, 2, 5, 6), []toldAnswer{{6, 0}, {6, 0}, {11, 1}}},
		{"a batch that is full while the server is not free", doubling(2, 9, 8, 0, 0, 3, 4), []toldAnswer{{8, 0}, {8, 0}, {16, 1}, {16, 1}}},
		{"a wait that ends while the server is not free", doubling(3, 2, 8, 0, 0, 0, 3), []toldAnswer{{8, 0}, {8, 0}, {8, 0}, {16, 1}}},
		{"a wait that ends as the server becomes free", doubling(3, 5, 8, 0, 0, 0, 3), []toldAnswer{{8, 0}, {8, 0}, {8, 0}, {16, 1}}},
		{"a wait that ends behind that", doubling(3, 6, 8, 0, 0, 0, 3), []toldAnswer{{8, 0}, {8, 0}, {8, 0}, {17, 1}}},
		{"a wait of the first one that waits, not of one in a batch", doubling(2, 10, 1, 0, 1, 2), []toldAnswer{{2, 0}, {2, 0}, {13, 1}}},
		{"requests that wait behind a full batch", doubling(2, 10, 6, 0, 0, 1, 2, 3), []toldAnswer{{6, 0}, {6, 0}, {12, 1}, {12, 1}, {19, 2}}},
		{"the last ones, which never fill a batch", doubling(4, 100, 1, 0, 1, 2), []toldAnswer{{101, 0}, {101, 0}, {101, 0}}},
		{"one that comes while others wait", doubling(16, 3, 2, 0, 2, 3, 4), []toldAnswer{{5, 0}, {5, 0}, {5, 0}, {9, 1}}},
	} {
		answers, ok := c.arguments.serve()
		var want []impl.Answer
		for i, told := range c.want {
			want = append(want, impl.Answer{At: told.at, Batch: told.batch, Row: []float32{2 * float32(i)}})
		}
		wantAnswersOk(t, "ServeRequests, "+c.name, answers, ok, want)
		wantAnswersOk(t, "the text of the document for "+c.name, c.arguments.byRule(), true, want)
	}
}

// eachTicks gives all lists of count ticks in order, from 0 to most.
func eachTicks(count int, most int64, give func(ticks []int64)) {
	list := make([]int64, count)
	var next func(place int, from int64)
	next = func(place int, from int64) {
		if place == count {
			give(list)
			return
		}
		for tick := from; tick <= most; tick++ {
			list[place] = tick
			next(place+1, tick)
		}
	}
	next(0, 0)
}

// All few requests with small ticks, sizes, waits and works.
func TestServeAllFewRequests(t *testing.T) {
	for count := range 5 {
		eachTicks(count, 5, func(ticks []int64) {
			for size := int64(1); size <= 4; size++ {
				for wait := int64(0); wait <= 4; wait++ {
					for work := int64(1); work <= 3; work++ {
						doubling(size, wait, work, ticks...).check(t, "few requests")
					}
				}
			}
		})
	}
}

func TestServeManyRequests(t *testing.T) {
	c := chance(730)
	for name, m := range c.models() {
		for count := range impl.MaxRequests + 1 {
			for _, numbers := range []func(int) []float32{c.smallList, c.anyList, c.namedList} {
				a := c.served(m, count, numbers)
				a.check(t, fmt.Sprintf("%s, %d requests", name, count))
				a.size = int64(1 + c.below(impl.MaxSide))
				a.check(t, fmt.Sprintf("%s, %d requests and any size", name, count))
			}
		}
	}
}

func TestLimitsOfServers(t *testing.T) {
	c := chance(731)
	for _, size := range []int64{1, 2, 15, 16} {
		for _, wait := range []int64{0, 1, 99999, 100000} {
			for _, work := range []int64{1, 2, 99999, 100000} {
				a := doubling(size, wait, work, 0, 0, 1, 99999, 100000, 100000)
				a.check(t, "limits")
			}
		}
	}
	for _, count := range []int{20, 19, 16, 17} {
		for _, size := range []int64{1, 3, 16} {
			first := doubling(size, 5, 2, make([]int64, count)...)
			first.check(t, "all requests at the tick 0")
			last := doubling(size, 5, 2, slices.Repeat([]int64{impl.MaxTick}, count)...)
			last.check(t, "all requests at the tick 100000")
			doubling(size, 7, 3, c.ticks(count, 5000)...).check(t, "requests far apart")
		}
	}
	long := doubling(1, 0, impl.MaxTick, slices.Repeat([]int64{impl.MaxTick}, 20)...)
	answers, ok := long.serve()
	wantValue(t, "the greatest work: success", ok, true)
	for i, answer := range answers {
		wantValue(t, "the greatest work", answer.At, int64(i+2)*impl.MaxTick)
	}
}

func TestServersWithoutRequests(t *testing.T) {
	c := chance(732)
	for name, m := range c.models() {
		for _, requests := range [][]impl.Request{nil, {}} {
			got, ok := impl.ServeRequests(m, requests, 16, 100000, 100000)
			wantAnswersOk(t, "ServeRequests without requests of "+name, got, ok, nil)
		}
		servedArguments{m, nil, 0, 0, 1}.wantFailed(t, "no requests and no size")
		servedArguments{m, nil, 1, -1, 1}.wantFailed(t, "no requests and a negative wait")
		servedArguments{m, nil, 1, 0, 0}.wantFailed(t, "no requests and no work")
	}
	for name, broken := range brokenModels() {
		servedArguments{broken, nil, 1, 0, 1}.wantFailed(t, "no requests of "+name)
		for count := 1; count <= 9; count++ {
			servedArguments{broken, requestsAt(filled(count, 1), 0), 1, 0, 1}.wantFailed(t, name)
		}
		servedArguments{broken, requestsAt(nil, 0), 1, 0, 1}.wantFailed(t, "an empty row of "+name)
	}
}

func TestNumbersOfServersThatAreNone(t *testing.T) {
	for _, ticks := range [][]int64{nil, {0}, {3, 4, 4}, {100000}} {
		for _, n := range append(anyIntegers(), -2, 15, 16, 17, 99999, 100000, 100001, 200000, 1<<32+1) {
			isSize, isWait, isWork := n >= 1 && n <= 16, n >= 0 && n <= 100000, n >= 1 && n <= 100000
			for _, c := range []struct {
				arguments servedArguments
				isValid   bool
			}{
				{doubling(n, 4, 3, ticks...), isSize},
				{doubling(2, n, 3, ticks...), isWait},
				{doubling(2, 4, n, ticks...), isWork},
			} {
				_, ok := c.arguments.serve()
				wantValue(t, "ServeRequests with "+impl.Decimal(n), ok, c.isValid)
				if !c.isValid {
					c.arguments.wantFailed(t, impl.Decimal(n))
				}
			}
		}
	}
}

func TestRequestsThatAreNone(t *testing.T) {
	for _, ticks := range [][]int64{
		{-1}, {-1, 0}, {0, -1}, {1, 0}, {5, 6, 5}, {0, 1, 2, 1}, {7, 6, 7}, {100001}, {0, 100001}, {100000, 99999}, {100001, 100001}, {100001, 0},
		{math.MaxInt64}, {math.MinInt64}, {0, math.MaxInt64}, {math.MinInt64, math.MaxInt64}, {1 << 32}, {0, 1<<32 + 1}, {-100000}, slices.Repeat([]int64{3}, 21),
		make([]int64, 21), make([]int64, 22), make([]int64, 1000),
	} {
		for _, size := range []int64{1, 2, 16} {
			doubling(size, 4, 3, ticks...).wantFailed(t, fmt.Sprint("ticks ", ticks))
		}
	}
	// A tick that goes back in each place of the most requests.
	for place := 1; place < impl.MaxRequests; place++ {
		ticks := slices.Repeat([]int64{8}, impl.MaxRequests)
		ticks[place] = 7
		doubling(4, 4, 3, ticks...).wantFailed(t, "a tick that goes back")
	}
}

func TestRowsOfRequestsThatDoNotFit(t *testing.T) {
	c := chance(733)
	for name, m := range c.models() {
		in := int(m.Layers[0].In)
		for count := 1; count <= 4; count++ {
			for place := range count {
				for length := range 18 {
					a := c.served(m, count, c.smallList)
					a.requests[place].Row = filled(length, 1)
					if length != in {
						a.wantFailed(t, "a row of another length for "+name)
						continue
					}
					a.check(t, "a row of this length for "+name)
				}
			}
		}
		a := c.served(m, 2, c.smallList)
		a.requests[1].Row = nil
		a.wantFailed(t, "no row for "+name)
	}
}

func TestBatchSizes(t *testing.T) {
	for _, c := range []struct {
		batches, want []int64
	}{
		{nil, nil},
		{[]int64{0}, []int64{1}},
		{[]int64{0, 0, 0}, []int64{3}},
		{[]int64{0, 1, 2}, []int64{1, 1, 1}},
		{[]int64{0, 0, 1, 2, 2, 2}, []int64{2, 1, 3}},
		{make([]int64, 20), []int64{20}},
		{[]int64{0, 1, 2, 3, 4, 5, 6, 7, 8, 9, 10, 11, 12, 13, 14, 15, 16, 17, 18, 19}, []int64{1, 1, 1, 1, 1, 1, 1, 1, 1, 1, 1, 1, 1, 1, 1, 1, 1, 1, 1, 1}},
		{append(make([]int64, 19), 1), []int64{19, 1}},
	} {
		got, ok := impl.BatchSizes(answersWith(c.batches...))
		wantListOk(t, fmt.Sprint("BatchSizes of ", c.batches), got, ok, c.want)
	}
	got, ok := impl.BatchSizes([]impl.Answer{})
	wantListOk(t, "BatchSizes of an empty list", got, ok, nil)
	for _, batches := range [][]int64{
		{1}, {-1}, {2}, {-1, 0}, {1, 1}, {1, 0}, {-1, -1}, {0, 2}, {0, -1}, {0, 1, 0}, {0, 0, 2}, {0, 1, 3}, {0, 1, 1, 0}, {0, 1, 2, 1}, {0, 1, 2, 4}, {0, 1, -1},
		{math.MinInt64}, {math.MaxInt64}, {0, math.MinInt64}, {0, math.MaxInt64}, {math.MaxInt64, math.MinInt64}, {0, 1 << 32}, {1 << 32},
		make([]int64, 21), make([]int64, 22), append(make([]int64, 20), 1), append(make([]int64, 19), 2),
	} {
		got, ok := impl.BatchSizes(answersWith(batches...))
		wantFailed(t, fmt.Sprint("BatchSizes of ", batches), got, ok)
	}
}

// All lists of up to five batches from -1 to 4.
func TestBatchSizesOfAllFewAnswers(t *testing.T) {
	for count := range 6 {
		batches := make([]int64, count)
		for code := range int64(math.Pow(6, float64(count))) {
			isValid, sizes := true, []int64(nil)
			for i := range batches {
				batches[i] = code%6 - 1
				code /= 6
				switch {
				case i == 0 && batches[i] == 0 || i > 0 && batches[i] == batches[i-1]+1:
					sizes = append(sizes, 1)
				case i > 0 && batches[i] == batches[i-1] && len(sizes) > 0:
					sizes[len(sizes)-1]++
				default:
					isValid = false
				}
			}
			got, ok := impl.BatchSizes(answersWith(batches...))
			if !isValid {
				wantFailed(t, fmt.Sprint("BatchSizes of ", batches), got, ok)
				continue
			}
			wantListOk(t, fmt.Sprint("BatchSizes of ", batches), got, ok, sizes)
		}
	}
}

// Ticks and rows of answers do not matter for the sizes of batches.
func TestBatchSizesOfAnyAnswers(t *testing.T) {
	for _, tick := range append(anyIntegers(), 200000, 200001) {
		for _, row := range [][]float32{nil, {}, {nan}, filled(1000, 1)} {
			got, ok := impl.BatchSizes([]impl.Answer{{At: tick, Batch: 0, Row: row}, {At: -tick, Batch: 0}, {At: 0, Batch: 1, Row: row}})
			wantListOk(t, "BatchSizes with any ticks and rows", got, ok, []int64{2, 1})
		}
	}
}

func TestLongestDelay(t *testing.T) {
	for _, c := range []struct {
		name           string
		asked, answers []int64
		want           int64
	}{
		{"none", nil, nil, 0},
		{"one at once", []int64{5}, []int64{5}, 0},
		{"one", []int64{5}, []int64{9}, 4},
		{"the first", []int64{0, 1, 9}, []int64{8, 8, 16}, 8},
		{"the one in between", []int64{0, 1, 9}, []int64{4, 9, 16}, 8},
		{"the last", []int64{0, 1, 9}, []int64{4, 4, 16}, 7},
		{"all limits", []int64{0}, []int64{200000}, 200000},
		{"requests up to the limit", []int64{200000}, []int64{200000}, 0},
		{"behind the ticks of a server", []int64{100001, 150000}, []int64{199999, 200000}, 99998},
		{"ticks that go back", []int64{9, 3, 7}, []int64{12, 5, 8}, 3},
		{"the most", make([]int64, 20), append(make([]int64, 19), 2), 2},
		{"the most, the first", make([]int64, 20), append([]int64{2}, make([]int64, 19)...), 2},
	} {
		got, ok := impl.LongestDelay(requestsAt([]float32{1}, c.asked...), answersAt(c.answers...))
		wantOk(t, "LongestDelay, "+c.name, got, ok, c.want)
	}
	got, ok := impl.LongestDelay([]impl.Request{}, []impl.Answer{})
	wantOk(t, "LongestDelay of empty lists", got, ok, 0)
}

func TestDelaysThatAreNone(t *testing.T) {
	for _, c := range []struct {
		name           string
		asked, answers []int64
	}{
		{"a request more", []int64{0}, nil},
		{"an answer more", nil, []int64{0}},
		{"a request more at the end", []int64{0, 1}, []int64{0}},
		{"an answer more at the end", []int64{0}, []int64{0, 1}},
		{"21 of both", make([]int64, 21), make([]int64, 21)},
		{"1000 of both", make([]int64, 1000), make([]int64, 1000)},
		{"an answer before its request", []int64{5}, []int64{4}},
		{"a last answer before its request", []int64{0, 1, 5}, []int64{9, 9, 4}},
		{"an answer before its request in between", []int64{0, 10, 5}, []int64{9, 9, 9}},
		{"a negative request", []int64{-1}, []int64{5}},
		{"a last negative request", []int64{0, -1}, []int64{5, 5}},
		{"both negative", []int64{-2}, []int64{-1}},
		{"a negative answer", []int64{0}, []int64{-1}},
		{"an answer behind the limit", []int64{0}, []int64{200001}},
		{"a last answer behind the limit", []int64{0, 0}, []int64{5, 200001}},
		{"both behind the limit", []int64{200001}, []int64{200001}},
		{"a request behind the limit", []int64{200001}, []int64{200000}},
		{"the greatest numbers", []int64{0}, []int64{math.MaxInt64}},
		{"both greatest", []int64{math.MaxInt64}, []int64{math.MaxInt64}},
		{"the least numbers", []int64{math.MinInt64}, []int64{math.MinInt64}},
		{"the least and the greatest", []int64{math.MinInt64}, []int64{math.MaxInt64}},
		{"the greatest and the least", []int64{math.MaxInt64}, []int64{math.MinInt64}},
		{"the least and 0", []int64{math.MinInt64}, []int64{0}},
	} {
		got, ok := impl.LongestDelay(requestsAt([]float32{1}, c.asked...), answersAt(c.answers...))
		wantFailed(t, "LongestDelay, "+c.name, got, ok)
	}
	for place := range impl.MaxRequests {
		for _, tick := range []int64{6, -1, 200001} {
			answers := slices.Repeat([]int64{7}, impl.MaxRequests)
			answers[place] = tick
			got, ok := impl.LongestDelay(requestsAt(nil, slices.Repeat([]int64{7}, impl.MaxRequests)...), answersAt(answers...))
			wantFailed(t, "LongestDelay with one answer that is none", got, ok)
		}
	}
}

// Rows and batches do not matter for delays.
func TestLongestDelayOfAnyRows(t *testing.T) {
	for _, row := range [][]float32{nil, {}, {nan}, filled(1000, 1)} {
		for _, batch := range anyIntegers() {
			got, ok := impl.LongestDelay([]impl.Request{{At: 3, Row: row}}, []impl.Answer{{At: 5, Batch: batch, Row: row}})
			wantOk(t, "LongestDelay with any rows", got, ok, 2)
		}
	}
}

// The sizes and delays of what servers answer.
func TestSizesAndDelaysOfServers(t *testing.T) {
	c := chance(734)
	for range 3000 {
		a := c.served(doubled(), c.below(impl.MaxRequests+1), c.smallList)
		answers, ok := a.serve()
		wantValue(t, "ServeRequests: success", ok, true)
		sizes, ok := impl.BatchSizes(answers)
		wantValue(t, "BatchSizes: success", ok, true)
		var all, longest int64
		for _, size := range sizes {
			wantValue(t, "a batch of 1 to size", size >= 1 && size <= a.size, true)
			all += size
		}
		wantValue(t, "the sizes of all batches", all, int64(len(a.requests)))
		for i, answer := range answers {
			longest = max(longest, answer.At-a.requests[i].At)
		}
		delay, ok := impl.LongestDelay(a.requests, answers)
		wantOk(t, "LongestDelay of a server", delay, ok, longest)
	}
	// The last answers of a long work come too late for a delay.
	late := doubling(1, 0, impl.MaxTick, 100000, 100000)
	answers, _ := late.serve()
	delay, ok := impl.LongestDelay(late.requests, answers)
	wantFailed(t, "LongestDelay of late answers", delay, ok)
	delay, ok = impl.LongestDelay(late.requests[:1], answers[:1])
	wantOk(t, "LongestDelay of the first one", delay, ok, impl.MaxTick)
}
