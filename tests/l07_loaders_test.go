package tests

import (
	"fmt"
	"math"
	"slices"
	"testing"

	"loop.example/g01157/impl"
)

func TestConstantsOfChapter7(t *testing.T) {
	wantValue(t, "MaxSeed", impl.MaxSeed, 2147483647)
	wantValue(t, "MaxOnce", impl.MaxOnce, 40)
}

// Numbers that are told have been computed apart from this program, in
// another language.
func TestNextSeedsThatAreTold(t *testing.T) {
	for seed, want := range map[int64]int64{
		0: 12345, 1: 1103527590, 2: 59559187, 12345: 1406932606, 65536: 1315778617, 123456789: 231794730, 2147483646: 2087949151, 2147483647: 1043980748,
	} {
		next, ok := impl.NextSeed(seed)
		wantOk(t, "NextSeed of "+impl.Decimal(seed), next, ok, want)
	}
}

func TestNextSeed(t *testing.T) {
	c := chance(400)
	for range 5000 {
		seed := c.seed()
		next, ok := impl.NextSeed(seed)
		wantOk(t, "NextSeed of "+impl.Decimal(seed), next, ok, nextSeedByRule(seed))
		wantValue(t, "the next one is a seed", 0 <= next && next <= impl.MaxSeed, true)
	}
	for _, seed := range seeds() {
		next, ok := impl.NextSeed(seed)
		wantOk(t, "NextSeed of "+impl.Decimal(seed), next, ok, nextSeedByRule(seed))
	}
	for _, seed := range otherSeeds() {
		next, ok := impl.NextSeed(seed)
		wantFailure(t, "NextSeed of "+impl.Decimal(seed), next, ok)
	}
}

func TestShuffledRowsThatAreTold(t *testing.T) {
	for _, c := range []struct {
		count, seed int64
		want        []int64
		last        int64
	}{
		{1, 7, []int64{0}, 7},
		{2, 0, []int64{1, 0}, 12345},
		{2, 1, []int64{1, 0}, 1103527590},
		{3, 0, []int64{1, 2, 0}, 1406932606},
		{5, 5, []int64{4, 3, 2, 1, 0}, 2089129857},
		{15, impl.MaxSeed, []int64{4, 5, 0, 10, 9, 2, 3, 7, 12, 11, 1, 6, 8, 13, 14}, 488666313},
		{16, 0, []int64{15, 1, 8, 10, 7, 11, 14, 2, 12, 5, 9, 13, 4, 6, 3, 0}, 1381971571},
		{16, 1, []int64{11, 10, 8, 9, 2, 1, 14, 12, 3, 0, 15, 7, 4, 5, 13, 6}, 2111915288},
		{16, 123456789, []int64{8, 1, 12, 3, 10, 4, 9, 2, 6, 7, 13, 14, 11, 15, 5, 0}, 1097566972},
		{16, impl.MaxSeed, []int64{7, 2, 13, 12, 4, 8, 11, 15, 5, 10, 0, 1, 3, 6, 14, 9}, 652027854},
	} {
		what := fmt.Sprintf("ShuffleRows of %d with %d", c.count, c.seed)
		rows, last, ok := impl.ShuffleRows(c.count, c.seed)
		wantListOk(t, what, rows, ok, c.want)
		wantValue(t, what+": last seed", last, c.last)
	}
}

// wantEachOnce requires the numbers from 0 to count - 1 in any order.
func wantEachOnce(t *testing.T, what string, rows []int64, count int64) {
	t.Helper()
	sorted := slices.Sorted(slices.Values(rows))
	wantValue(t, what+": length", int64(len(rows)), count)
	for i, row := range sorted {
		wantValue(t, what+": each row once", row, int64(i))
	}
}

func TestShuffleRows(t *testing.T) {
	c := chance(401)
	for count := int64(1); count <= impl.MaxSide; count++ {
		list := seeds()
		for range 200 {
			list = append(list, c.seed())
		}
		for _, seed := range list {
			what := fmt.Sprintf("ShuffleRows of %d with %d", count, seed)
			want, wantLast := shuffleByRule(count, seed)
			rows, last, ok := impl.ShuffleRows(count, seed)
			wantListOk(t, what, rows, ok, want)
			wantValue(t, what+": last seed", last, wantLast)
			wantEachOnce(t, what, rows, count)
		}
	}
}

func TestShuffleRowsOfOtherNumbers(t *testing.T) {
	for _, seed := range seeds() {
		for _, count := range otherSides() {
			rows, last, ok := impl.ShuffleRows(count, seed)
			wantFailed(t, "ShuffleRows of another count", several{rows, last}, ok)
		}
	}
	for _, seed := range otherSeeds() {
		for _, count := range append(otherSides(), 1, 2, impl.MaxSide) {
			rows, last, ok := impl.ShuffleRows(count, seed)
			wantFailed(t, "ShuffleRows with another seed", several{rows, last}, ok)
		}
	}
}

func TestBatchesThatAreTold(t *testing.T) {
	for step, want := range map[int64][]int64{
		0: {2, 4}, 1: {1, 3}, 2: {0}, 3: {4, 1}, 4: {3, 0}, 5: {2}, 6: {3, 4}, 7: {1, 0}, 8: {2}, 9: {1, 2}, 998: {4}, 999: {4, 1}, 1000: {3, 0},
	} {
		rows, ok := impl.BatchOf(5, 2, 9, step)
		wantListOk(t, "BatchOf 5 rows for the step "+impl.Decimal(step), rows, ok, want)
	}
	// The sum of the seed and 7919 passes MaxSeed in the epoch 1, or just not.
	for seed, want := range map[int64][][]int64{
		impl.MaxSeed:        {{5, 7, 4, 2, 3, 0, 6, 1}, {4, 6, 3, 0, 2, 5, 1, 7}, {2, 4, 5, 1, 0, 7, 3, 6}},
		impl.MaxSeed - 7917: {{1, 7, 3, 5, 6, 2, 4, 0}, {2, 4, 0, 3, 7, 1, 5, 6}, {4, 3, 2, 7, 6, 0, 1, 5}},
		impl.MaxSeed - 7918: {{3, 7, 0, 1, 6, 2, 4, 5}, {0, 2, 5, 7, 3, 1, 6, 4}, {4, 3, 7, 0, 6, 5, 1, 2}},
		impl.MaxSeed - 7919: {{4, 0, 2, 6, 7, 1, 5, 3}, {5, 7, 4, 2, 3, 0, 6, 1}, {4, 6, 3, 0, 2, 5, 1, 7}},
	} {
		for epoch, rows := range want {
			got, ok := impl.BatchOf(8, 8, seed, int64(epoch))
			wantListOk(t, "BatchOf 8 rows with the seed "+impl.Decimal(seed), got, ok, rows)
		}
	}
}

// stepsToAsk has the first steps, those around the ends of epochs of k steps,
// and the last ones.
func stepsToAsk(k int64) []int64 {
	list := []int64{0, 1, 2, impl.MaxSteps - 1, impl.MaxSteps}
	for _, epoch := range []int64{1, 2, 3, 7, impl.MaxSteps/k - 1, impl.MaxSteps / k} {
		list = append(list, epoch*k-1, epoch*k, epoch*k+1)
	}
	return slices.DeleteFunc(list, func(step int64) bool { return step < 0 || step > impl.MaxSteps })
}

func TestBatchOf(t *testing.T) {
	c := chance(402)
	for count := int64(1); count <= impl.MaxSide; count++ {
		for batch := int64(1); batch <= impl.MaxSide; batch++ {
			k := int64(math.Ceil(float64(count) / float64(batch)))
			for _, seed := range []int64{0, impl.MaxSeed, impl.MaxSeed - 7918, c.seed(), c.seed()} {
				for _, step := range stepsToAsk(k) {
					rows, ok := impl.BatchOf(count, batch, seed, step)
					what := fmt.Sprintf("BatchOf %d rows by %d with %d for %d", count, batch, seed, step)
					wantListOk(t, what, rows, ok, batchByRule(count, batch, seed, step))
				}
			}
		}
	}
}

// All batches of an epoch together have each row once, and only the last one
// can have fewer than batch.
func TestEachEpochHasEachRowOnce(t *testing.T) {
	c := chance(403)
	for count := int64(1); count <= impl.MaxSide; count++ {
		for batch := int64(1); batch <= impl.MaxSide; batch++ {
			seed, step := c.seed(), int64(0)
			for range 5 {
				var epoch []int64
				for int64(len(epoch)) < count {
					rows, ok := impl.BatchOf(count, batch, seed, step)
					left := count - int64(len(epoch))
					wantOk(t, "the length of a batch", int64(len(rows)), ok, min(batch, left))
					epoch = append(epoch, rows...)
					step++
				}
				wantEachOnce(t, "an epoch", epoch, count)
			}
		}
	}
}

func TestBatchOfOtherNumbers(t *testing.T) {
	for _, side := range otherSides() {
		rows, ok := impl.BatchOf(side, 2, 0, 0)
		wantListFailure(t, "BatchOf another count", rows, ok)
		rows, ok = impl.BatchOf(2, side, 0, 0)
		wantListFailure(t, "BatchOf another batch", rows, ok)
		rows, ok = impl.BatchOf(side, side, 0, 0)
		wantListFailure(t, "BatchOf another count and batch", rows, ok)
	}
	for _, seed := range otherSeeds() {
		for _, count := range []int64{1, 2, impl.MaxSide} {
			rows, ok := impl.BatchOf(count, 2, seed, 0)
			wantListFailure(t, "BatchOf another seed", rows, ok)
		}
	}
	for _, step := range []int64{-1, -2, impl.MaxSteps + 1, impl.MaxSteps + 2, 1 << 32, math.MaxInt64, math.MinInt64} {
		for _, count := range []int64{1, 2, impl.MaxSide} {
			rows, ok := impl.BatchOf(count, 2, 0, step)
			wantListFailure(t, "BatchOf another step", rows, ok)
		}
	}
}

func TestValidExamples(t *testing.T) {
	for _, a := range shapes() {
		for _, b := range shapes() {
			data := examples(tensor(a[0], a[1], filled(int(a[0]*a[1]), nan)...), tensor(b[0], b[1], filled(int(b[0]*b[1]), infinity)...))
			wantValue(t, "ValidExamples", impl.ValidExamples(data), a[0] == b[0])
		}
	}
	for name, broken := range brokenTensors() {
		valid := tensor(1, 2, 1, 2)
		if 1 <= broken.Rows && broken.Rows <= impl.MaxSide {
			valid = tensor(broken.Rows, 1, filled(int(broken.Rows), 1)...)
		}
		wantValue(t, "ValidExamples with Inputs: "+name, impl.ValidExamples(examples(broken, valid)), false)
		wantValue(t, "ValidExamples with Targets: "+name, impl.ValidExamples(examples(valid, broken)), false)
		wantValue(t, "ValidExamples with both: "+name, impl.ValidExamples(examples(broken, broken)), false)
	}
	wantValue(t, "ValidExamples of the zero struct", impl.ValidExamples(impl.Examples{}), false)
}

func wantExamplesOk(t *testing.T, what string, got impl.Examples, ok bool, want impl.Examples) {
	t.Helper()
	wantTensorOk(t, what+": Inputs", got.Inputs, ok, want.Inputs)
	wantTensorOk(t, what+": Targets", got.Targets, ok, want.Targets)
}

func TestPickRows(t *testing.T) {
	c := chance(404)
	for _, rows := range []int64{1, 2, 3, 7, impl.MaxSide} {
		data := examples(c.anyTensor(rows, 3), c.anyTensor(rows, impl.MaxSide))
		for count := 1; count <= impl.MaxSide; count++ {
			for range 10 {
				picked := make([]int64, count)
				for i := range picked {
					picked[i] = int64(c.below(int(rows)))
				}
				got, ok := impl.PickRows(data, picked)
				wantExamplesOk(t, "PickRows", got, ok, examples(rowsByRule(data.Inputs, picked), rowsByRule(data.Targets, picked)))
			}
			got, ok := impl.PickRows(data, slices.Repeat([]int64{rows - 1}, count))
			wantExamplesOk(t, "PickRows of one row several times", got, ok,
				examples(rowsByRule(data.Inputs, slices.Repeat([]int64{rows - 1}, count)), rowsByRule(data.Targets, slices.Repeat([]int64{rows - 1}, count))))
		}
	}
	data := examples(tensor(3, 2, 1, 2, 3, 4, 5, 6), tensor(3, 1, 7, 8, minusZero))
	got, ok := impl.PickRows(data, []int64{2, 0, 2})
	wantExamplesOk(t, "PickRows in their order", got, ok, examples(tensor(3, 2, 5, 6, 1, 2, 5, 6), tensor(3, 1, minusZero, 7, minusZero)))
	got, ok = impl.PickRows(data, []int64{1})
	wantExamplesOk(t, "PickRows of one row", got, ok, examples(tensor(1, 2, 3, 4), tensor(1, 1, 8)))
}

func TestPickRowsOfOtherRows(t *testing.T) {
	c := chance(405)
	for _, count := range []int64{1, 2, impl.MaxSide} {
		data := examples(c.smallTensor(count, 2), c.smallTensor(count, 1))
		for _, row := range []int64{-1, -2, count, count + 1, 17, 1 << 32, math.MaxInt64, math.MinInt64} {
			for place := range 3 {
				rows := []int64{0, 0, 0}
				rows[place] = row
				got, ok := impl.PickRows(data, rows)
				wantFailed(t, "PickRows of a row that there is not", got, ok)
			}
		}
		for _, rows := range [][]int64{nil, {}, make([]int64, impl.MaxSide+1), make([]int64, 32), make([]int64, 1000)} {
			got, ok := impl.PickRows(data, rows)
			wantFailed(t, "PickRows of another number of rows", got, ok)
		}
	}
}

func TestPickRowsOfBrokenExamples(t *testing.T) {
	for _, rows := range [][]int64{nil, {0}, {0, 1}, {1}, {-1}} {
		for name, broken := range brokenTensors() {
			for _, data := range []impl.Examples{examples(broken, tensor(2, 1, 1, 2)), examples(tensor(2, 1, 1, 2), broken), examples(broken, broken)} {
				got, ok := impl.PickRows(data, rows)
				wantFailed(t, "PickRows of "+name, got, ok)
			}
		}
		for _, data := range []impl.Examples{examples(tensor(2, 1, 1, 2), tensor(3, 1, 1, 2, 3)), examples(tensor(3, 1, 1, 2, 3), tensor(2, 1, 1, 2))} {
			got, ok := impl.PickRows(data, rows)
			wantFailed(t, "PickRows of other numbers of rows", got, ok)
		}
	}
}
