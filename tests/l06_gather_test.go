package tests

import (
	"testing"

	"loop.example/g01157/impl"
)

func TestGatherRounding(t *testing.T) {
	const part = 0.00390625 // half of the distance of two bfloats from 1 on
	great := of(0x7f7f0000) // the greatest bfloat
	for _, c := range []struct {
		name      string
		x         float32
		rounds    int64
		sum, rest float32
	}{
		{"no rounds", 1 + part, 0, 0, 0}, {"no rounds of none", nan, 0, 0, 0}, {"no rounds of an infinity", infinity, 0, 0, 0}, {"no rounds of -0", minusZero, 0, 0, 0},
		{"a tie to even", 1 + part, 1, 1, part}, {"a rest that is used", 1 + part, 2, 2 + 2*part, 0}, {"a rest that comes again", 1 + part, 3, 3 + 2*part, part},
		{"a tie below 0", -1 - part, 1, -1, -part}, {"a rest below 0 that is used", -1 - part, 2, -2 - 2*part, 0},
		{"a tie away from 0", 1 + 3*part, 1, 1 + 4*part, -part}, {"its second round", 1 + 3*part, 2, 2 + 6*part, 0},
		{"a bfloat", 1.5, 20, 30, 0}, {"the most rounds", 1 + part, 20, 20 + 20*part, 0}, {"one before them", 1 + part, 19, 19 + 18*part, part},
		{"three parts of four", 1 + part/2, 1, 1, part / 2}, {"its second round", 1 + part/2, 2, 2, part}, {"its third round", 1 + part/2, 3, 3 + 2*part, -part / 2}, {"its fourth round", 1 + part/2, 4, 4 + 2*part, 0},
		{"a rest of 1", 257, 1, 256, 1}, {"a rest of 1 that is used", 257, 2, 514, 0}, {"a rest of -1", 259, 1, 260, -1}, {"a rest of -1 that is used", 259, 4, 1036, 0},
		{"+0", 0, 7, 0, 0}, {"-0", minusZero, 1, 0, 0}, {"-0 again", minusZero, 2, 0, 0},
		{"the least", least, 1, 0, least}, {"the least again", least, 20, 0, 20 * least}, {"below 0", -least, 1, 0, -least}, {"below 0 again", -least, 3, 0, -3 * least},
		{"bits under a bfloat", of(0x00008000), 1, 0, of(0x00008000)}, {"both of them", of(0x00008000), 2, of(0x00010000), 0},
		{"a sum that is rounded", of(0x3f810000), 3, of(0x40418000), 0}, {"the greatest bfloat", great, 1, great, 0}, {"a sum that overflows", great, 2, infinity, 0}, {"a sum that overflows below", -great, 3, -infinity, 0},
		{"rounded to an infinity", greatest, 1, infinity, -infinity}, {"the same again", greatest, 2, nan, nan}, {"rounded to -infinity", -greatest, 1, -infinity, infinity},
		{"just not rounded to an infinity", of(0x7f7f7fff), 1, great, of(0x7f7f7fff) - great}, {"but with its rest", of(0x7f7f7fff), 2, infinity, -infinity},
		{"an infinity", infinity, 1, infinity, nan}, {"an infinity again", infinity, 2, nan, nan}, {"-infinity", -infinity, 1, -infinity, nan},
		{"a not-a-number", nan, 1, nan, nan}, {"another one", of(0xff800001), 20, nan, nan},
	} {
		sums, rests, ok := impl.GatherRounding([]float32{c.x}, c.rounds)
		wantNumbersOk(t, "GatherRounding, "+c.name, sums, ok, []float32{c.sum})
		wantNumbersOk(t, "GatherRounding, "+c.name+": rests", rests, ok, []float32{c.rest})
		around := []float32{0.1, c.x, 1 + part, c.x, nan}
		sums, rests, ok = impl.GatherRounding(around, c.rounds)
		wantNumberOk(t, "GatherRounding between others, "+c.name, sums[1], ok, c.sum)
		wantNumberOk(t, "GatherRounding between others, "+c.name+": rests", rests[1], ok, c.rest)
		wantNumberOk(t, "GatherRounding twice, "+c.name, sums[3], ok, c.sum)
		wantNumberOk(t, "GatherRounding twice, "+c.name+": rests", rests[3], ok, c.rest)
	}
}

// gatherByRule is the text of the document for one number.
func gatherByRule(x float32, rounds int64) (sum, rest float32) {
	for range rounds {
		whole := float32(x + rest)
		rounded := bfloatByDistance(whole)
		rest = whole - rounded
		sum = float32(sum + rounded)
	}
	return sum, rest
}

func TestGatherRoundingOfEachLength(t *testing.T) {
	c := chance(330)
	for count := range impl.MaxNumbers + 1 {
		for _, list := range append(c.lists(count), c.coded(count)...) {
			rounds := int64(c.below(21))
			want, wantRests := make([]float32, count), make([]float32, count)
			for i, x := range list {
				want[i], wantRests[i] = gatherByRule(x, rounds)
			}
			sums, rests, ok := impl.GatherRounding(list, rounds)
			wantValue(t, "GatherRounding", textOfResult(sums, rests, ok), textOfResult(want, wantRests, true))
		}
	}
}

func TestRoundsOfGatherRounding(t *testing.T) {
	list := append(edges(), 0.1, -0.7, 1.3)
	for rounds := range int64(21) {
		sums, rests, ok := impl.GatherRounding(list, rounds)
		wantValue(t, "GatherRounding: success", ok, true)
		for i, x := range list {
			want, wantRest := gatherByRule(x, rounds)
			wantNumber(t, "GatherRounding", sums[i], want)
			wantNumber(t, "GatherRounding: rests", rests[i], wantRest)
		}
	}
	for _, rounds := range append(anyIntegers(), 20, 21, 22, -2, 1<<32+1) {
		for _, list := range [][]float32{nil, {1}, list} {
			sums, rests, ok := impl.GatherRounding(list, rounds)
			if 0 <= rounds && rounds <= 20 {
				wantValue(t, "GatherRounding: success", ok, true)
				wantValue(t, "GatherRounding: length", len(sums) == len(list) && len(rests) == len(list), true)
			} else {
				wantFailed(t, "GatherRounding of another number of rounds", several{sums, rests}, ok)
			}
		}
	}
	for _, count := range []int{impl.MaxNumbers + 1, 1000} {
		for _, rounds := range []int64{0, 1, 20} {
			sums, rests, ok := impl.GatherRounding(filled(count, 1), rounds)
			wantFailed(t, "GatherRounding of too many", several{sums, rests}, ok)
		}
	}
}
