package tests

import (
	"math/rand"
	"slices"
	"testing"

	"loop.example/losslessaudio/impl"
)

// indicesOf returns all indices of ranges.
func indicesOf(ranges []impl.Job) []int {
	all := []int{}
	for _, j := range ranges {
		for i := j.From; i < j.To; i++ {
			all = append(all, i)
		}
	}
	return all
}

// slowRanges returns the ranges at which two audios of the same shape differ, by looking for their beginnings and ends.
func slowRanges(a impl.Audio, b impl.Audio) []impl.Job {
	total := len(a.Channels[0])
	differ := func(i int) bool {
		for c := range a.Channels {
			if i >= 0 && i < total && a.Channels[c][i] != b.Channels[c][i] {
				return true
			}
		}
		return false
	}
	ranges := []impl.Job{}
	for from := range total {
		if differ(from) && !differ(from-1) {
			to := from
			for differ(to) {
				to++
			}
			ranges = append(ranges, impl.Job{From: from, To: to})
		}
	}
	return ranges
}

// slowNoise returns the sum of the squares of the differences of two audios of the same shape.
func slowNoise(a impl.Audio, b impl.Audio) int {
	sum := 0
	for c := range a.Channels {
		for i := range a.Channels[c] {
			sum += (a.Channels[c][i] - b.Channels[c][i]) * (a.Channels[c][i] - b.Channels[c][i])
		}
	}
	return sum
}

// slowPatch returns audio in which samples are replaced, sample by sample.
func slowPatch(a impl.Audio, from int, samples [][]int) impl.Audio {
	b := cloneAudio(a)
	for c, list := range samples {
		for i, n := range list {
			b.Channels[c][from+i] = n
		}
	}
	return b
}

// checkRanges fails if the ranges at which two audios differ are not the wanted ones, in one of both orders.
func checkRanges(t *testing.T, a impl.Audio, b impl.Audio, want []impl.Job) {
	t.Helper()
	for range 2 {
		if got := impl.DifferentRanges(a, b); !slices.Equal(got, want) {
			t.Errorf("DifferentRanges(%v, %v) = %v instead of %v", a, b, got, want)
		}
		a, b = b, a
	}
}

// checkNoise fails if the noise of two audios is not the wanted one, in one of both orders.
func checkNoise(t *testing.T, a impl.Audio, b impl.Audio, want int) {
	t.Helper()
	for range 2 {
		if got := impl.NoiseOf(a, b); got != want {
			t.Errorf("NoiseOf(%v, %v) = %d instead of %d", a, b, got, want)
		}
		a, b = b, a
	}
}

// checkPatch fails if patched audio is not the wanted one.
func checkPatch(t *testing.T, a impl.Audio, from int, samples [][]int, want impl.Audio) {
	t.Helper()
	if got, ok := impl.PatchAudio(a, from, samples); !ok || !sameAudio(got, want) {
		t.Errorf("PatchAudio(%v, %d, %v) = %v, %v instead of %v", a, from, samples, got, ok, want)
	}
}

// checkNoPatch fails if audio is patched.
func checkNoPatch(t *testing.T, what string, a impl.Audio, from int, samples [][]int) {
	t.Helper()
	if got, ok := impl.PatchAudio(a, from, samples); ok || !sameAudio(got, impl.Audio{}) {
		t.Errorf("PatchAudio of %s, %v, %d, %v = %v, %v", what, a, from, samples, got, ok)
	}
}

// rangesOf returns ranges of beginnings and ends in turn.
func rangesOf(numbers ...int) []impl.Job {
	ranges := []impl.Job{}
	for i := 0; i < len(numbers); i += 2 {
		ranges = append(ranges, impl.Job{From: numbers[i], To: numbers[i+1]})
	}
	return ranges
}

// someVersion returns audio of the same shape that differs at some indices, often of one channel only; it is the same in every run.
func someVersion(r *rand.Rand, a impl.Audio) impl.Audio {
	b := cloneAudio(a)
	seldom := 1 + r.Intn(6)
	for c, list := range b.Channels {
		if r.Intn(4) == 0 {
			continue
		}
		for i := range list {
			if r.Intn(seldom) == 0 {
				list[i] += r.Intn(5) - 2
			}
		}
		b.Channels[c] = inWidth(list, a.Depth)
	}
	return b
}

// otherShapes returns audio that is valid and has another shape than an audio of two channels with five samples.
func otherShapes(a impl.Audio) map[string]impl.Audio {
	left, right := a.Channels[0], a.Channels[1]
	return map[string]impl.Audio{
		"a greater rate":  {Rate: a.Rate + 1, Depth: a.Depth, Channels: a.Channels},
		"a smaller rate":  {Rate: a.Rate - 1, Depth: a.Depth, Channels: a.Channels},
		"a greater depth": {Rate: a.Rate, Depth: a.Depth + 1, Channels: a.Channels},
		"a smaller depth": {Rate: a.Rate, Depth: a.Depth - 1, Channels: a.Channels},
		"the first one":   {Rate: a.Rate, Depth: a.Depth, Channels: [][]int{left}},
		"the second one":  {Rate: a.Rate, Depth: a.Depth, Channels: [][]int{right}},
		"one less":        {Rate: a.Rate, Depth: a.Depth, Channels: [][]int{left[:4], right[:4]}},
		"one less before": {Rate: a.Rate, Depth: a.Depth, Channels: [][]int{left[1:], right[1:]}},
		"one more":        {Rate: a.Rate, Depth: a.Depth, Channels: [][]int{append(slices.Clone(left), 0), append(slices.Clone(right), 0)}},
		"no samples":      {Rate: a.Rate, Depth: a.Depth, Channels: [][]int{nil, nil}},
		"both in turn":    {Rate: a.Rate, Depth: a.Depth, Channels: [][]int{slowTurns(a.Channels)}},
	}
}

func TestDifferentRangesExamples(t *testing.T) {
	zero := make([]int, 6)
	for _, c := range []struct {
		list []int
		want []impl.Job
	}{
		{[]int{0, 0, 0, 0, 0, 0}, nil},
		{[]int{1, 0, 0, 0, 0, 0}, rangesOf(0, 1)},
		{[]int{0, 0, 0, 0, 0, -1}, rangesOf(5, 6)},
		{[]int{1, 0, 0, 0, 0, 1}, rangesOf(0, 1, 5, 6)},
		{[]int{1, 2, -3, 4, 5, 6}, rangesOf(0, 6)},
		{[]int{0, 1, 1, 0, 1, 0}, rangesOf(1, 3, 4, 5)},
		{[]int{1, 0, 1, 0, 1, 0}, rangesOf(0, 1, 2, 3, 4, 5)},
		{[]int{0, 1, 0, 1, 0, 1}, rangesOf(1, 2, 3, 4, 5, 6)},
		{[]int{1, 1, 0, 1, 1, 1}, rangesOf(0, 2, 3, 6)},
		{[]int{0, 0, 1, -1, 0, 0}, rangesOf(2, 4)},
		{[]int{0, -8, 7, 0, 0, 0}, rangesOf(1, 3)},
	} {
		checkRanges(t, audioOf(4, zero), audioOf(4, c.list), c.want)
		checkRanges(t, audioOf(4, zero, zero), audioOf(4, c.list, zero), c.want)
		checkRanges(t, audioOf(4, zero, zero), audioOf(4, zero, c.list), c.want)
		checkRanges(t, audioOf(4, zero, c.list), audioOf(4, c.list, zero), c.want)
		checkRanges(t, audioOf(4, zero, c.list), audioOf(4, zero, c.list), nil)
	}
	// Each channel differs at other indices.
	for _, c := range []struct {
		left, right []int
		want        []impl.Job
	}{
		{[]int{1, 0, 0, 0}, []int{0, 1, 0, 0}, rangesOf(0, 2)}, {[]int{0, 1, 0, 0}, []int{1, 0, 0, 0}, rangesOf(0, 2)}, {[]int{1, 0, 0, 0}, []int{0, 0, 1, 0}, rangesOf(0, 1, 2, 3)},
		{[]int{0, 0, 1, 1}, []int{1, 1, 0, 0}, rangesOf(0, 4)}, {[]int{1, 0, 1, 0}, []int{0, 1, 0, 1}, rangesOf(0, 4)}, {[]int{0, 0, 0, 1}, []int{1, 0, 0, 1}, rangesOf(0, 1, 3, 4)},
	} {
		checkRanges(t, audioOf(4, zero[:4], zero[:4]), audioOf(4, c.left, c.right), c.want)
	}
	checkRanges(t, audioOf(4, nil), audioOf(4, []int{}), nil)
	checkRanges(t, audioOf(4, nil, nil), audioOf(4, []int{}, nil), nil)
	checkRanges(t, audioOf(4, []int{3}), audioOf(4, []int{4}), rangesOf(0, 1))
}

func TestComparisonsUpToMaxTotal(t *testing.T) {
	low, top := slices.Repeat([]int{-32768}, 256), slices.Repeat([]int{32767}, 256)
	checkRanges(t, audioOf(16, low, top), audioOf(16, top, low), rangesOf(0, 256))
	checkNoise(t, audioOf(16, low, top), audioOf(16, top, low), 512*65535*65535)
	checkNoise(t, audioOf(16, low), audioOf(16, top), 256*65535*65535)
	checkNoise(t, audioOf(16, low, low), audioOf(16, low, top), 256*65535*65535)
	last := append(slices.Clone(low[:255]), -32767)
	checkRanges(t, audioOf(16, low), audioOf(16, last), rangesOf(255, 256))
	checkNoise(t, audioOf(16, low), audioOf(16, last), 1)
	checkPatch(t, audioOf(16, low, top), 0, [][]int{top, low}, audioOf(16, top, low))
	checkPatch(t, audioOf(16, low), 255, [][]int{{-32767}}, audioOf(16, last))
	checkPatch(t, audioOf(16, low), 256, [][]int{{}}, audioOf(16, low))
	checkNoPatch(t, "one behind the end", audioOf(16, low), 256, [][]int{{0}})
	checkNoPatch(t, "one behind the end", audioOf(16, low), 257, [][]int{{}})
	checkNoPatch(t, "all but one place", audioOf(16, low), 1, [][]int{low})
	checkNoPatch(t, "too many samples", audioOf(16, low), 0, [][]int{make([]int, 257)})
	// Every second index.
	turns, want := slices.Repeat([]int{0, 1}, 128), []impl.Job{}
	for i := 1; i < 256; i += 2 {
		want = append(want, impl.Job{From: i, To: i + 1})
	}
	checkRanges(t, audioOf(8, make([]int, 256)), audioOf(8, turns), want)
	checkRanges(t, audioOf(8, make([]int, 256), turns), audioOf(8, turns, turns), want)
}

func TestComparisonsOfOtherShapes(t *testing.T) {
	a := audioOf(8, []int{1, 2, 3, 4, 5}, []int{6, 7, 8, 9, 10})
	for name, b := range otherShapes(a) {
		if !impl.ValidAudio(b) {
			t.Errorf("audio of another shape, %s, is not valid", name)
		}
		checkRanges(t, a, b, nil)
		checkNoise(t, a, b, -1)
		checkRanges(t, b, b, nil)
		checkNoise(t, b, b, 0)
	}
	// Without samples there is no difference, but the shape counts.
	checkNoise(t, audioOf(8, nil), audioOf(8, nil), 0)
	checkNoise(t, audioOf(8, nil), audioOf(9, nil), -1)
	checkNoise(t, audioOf(8, nil), audioOf(8, nil, nil), -1)
	checkNoise(t, audioOf(8, nil), impl.Audio{Rate: 8001, Depth: 8, Channels: [][]int{nil}}, -1)
	checkNoise(t, audioOf(8, nil), audioOf(8, []int{0}), -1)
	checkRanges(t, audioOf(8, nil), audioOf(8, []int{1}), nil)
}

func TestComparisonsOfInvalidAudio(t *testing.T) {
	for name, a := range invalidAudios() {
		checkRanges(t, a, a, nil)
		checkNoise(t, a, a, -1)
		others := []impl.Audio{{}, audioOf(8, nil), audioOf(8, []int{1, 2, 3}), audioOf(8, []int{0, 0}, []int{0, 0}), {Rate: 1, Depth: 16, Channels: [][]int{{0}, {0}}}}
		for channels := 1; channels <= 3; channels++ {
			for _, total := range []int{0, 1, 2, 3, 257} {
				others = append(others, impl.Audio{Rate: a.Rate, Depth: a.Depth, Channels: slices.Repeat([][]int{make([]int, total)}, channels)})
			}
		}
		for _, b := range others {
			checkRanges(t, a, b, nil)
			checkNoise(t, a, b, -1)
		}
		for _, samples := range [][][]int{nil, {}, {nil}, {{0}}, {nil, nil}, {{0}, {0}}, {{0, 0, 0}}, a.Channels} {
			for _, from := range []int{-1, 0, 1} {
				checkNoPatch(t, name, a, from, samples)
			}
		}
	}
}

func TestPatchAudioExamples(t *testing.T) {
	a := audioOf(8, []int{1, 2, 3, 4, 5})
	for _, c := range []struct {
		from int
		list []int
		want []int
	}{
		{0, nil, []int{1, 2, 3, 4, 5}}, {3, []int{}, []int{1, 2, 3, 4, 5}}, {5, nil, []int{1, 2, 3, 4, 5}}, {0, []int{9}, []int{9, 2, 3, 4, 5}}, {4, []int{9}, []int{1, 2, 3, 4, 9}}, {1, []int{9, -9}, []int{1, 9, -9, 4, 5}},
		{0, []int{5, 6, 7, 8, 9}, []int{5, 6, 7, 8, 9}}, {0, []int{5, 6, 7, 8}, []int{5, 6, 7, 8, 5}}, {1, []int{5, 6, 7, 8}, []int{1, 5, 6, 7, 8}}, {3, []int{127, -128}, []int{1, 2, 3, 127, -128}}, {2, []int{3}, []int{1, 2, 3, 4, 5}},
	} {
		checkPatch(t, a, c.from, [][]int{c.list}, audioOf(8, c.want))
		zero := make([]int, 5)
		checkPatch(t, audioOf(8, a.Channels[0], zero), c.from, [][]int{c.list, zero[:len(c.list)]}, audioOf(8, c.want, zero))
		checkPatch(t, audioOf(8, zero, a.Channels[0]), c.from, [][]int{zero[:len(c.list)], c.list}, audioOf(8, zero, c.want))
	}
	for _, c := range []struct{ from, count int }{{5, 1}, {4, 2}, {1, 5}, {0, 6}, {3, 3}, {6, 0}, {7, 0}, {6, 1}, {-1, 0}, {-1, 1}, {-1, 5}, {-1, 6}, {-5, 5}, {-2, 2}, {256, 0}, {0, 256}, {0, 257}, {0, 1000}} {
		checkNoPatch(t, "places that are not there", a, c.from, [][]int{make([]int, c.count)})
	}
	for _, from := range farNumbers {
		for count := range 7 {
			checkNoPatch(t, "a far place", a, from, [][]int{make([]int, count)})
		}
	}
	empty := audioOf(8, nil, nil)
	checkPatch(t, empty, 0, [][]int{nil, {}}, empty)
	checkNoPatch(t, "no samples", empty, 1, [][]int{nil, nil})
	checkNoPatch(t, "no samples", empty, -1, [][]int{nil, nil})
	checkNoPatch(t, "no samples", empty, 0, [][]int{{0}, {0}})
}

func TestPatchesOfOtherLists(t *testing.T) {
	one, two := audioOf(8, []int{1, 2, 3}), audioOf(8, []int{1, 2, 3}, []int{4, 5, 6})
	for name, samples := range map[string][][]int{
		"nothing": nil, "no lists": {}, "two lists for one channel": {{9}, {9}}, "two empty lists for one channel": {nil, nil}, "an empty list more": {{9}, nil}, "three lists": {{9}, {9}, {9}}, "three empty lists": {nil, nil, nil},
	} {
		for from := range 4 {
			checkNoPatch(t, name, one, from, samples)
		}
	}
	for name, samples := range map[string][][]int{
		"nothing": nil, "no lists": {}, "one list for two channels": {{9}}, "one empty list": {nil}, "three lists": {{9}, {9}, {9}}, "three empty lists": {nil, nil, nil}, "an empty list more": {{9}, {9}, nil}, "many lists": make([][]int, 100),
		"a longer second list": {{9}, {9, 9}}, "a shorter second list": {{9, 9}, {9}}, "an empty second list": {{9}, nil}, "an empty first list": {nil, {9}}, "different lists that fit": {{9, 9, 9}, {9, 9}},
	} {
		for from := range 4 {
			checkNoPatch(t, name, two, from, samples)
		}
	}
}

func TestPatchesOfEveryDepth(t *testing.T) {
	for depth := impl.MinWidth; depth <= impl.MaxDepth; depth++ {
		low, top := -1<<(depth-1), 1<<(depth-1)-1
		one, two := audioOf(depth, []int{0, 1, -1}), audioOf(depth, []int{0, 1, -1}, []int{1, 0, 0})
		for _, n := range []int{low, top, low + 1, top - 1} {
			checkPatch(t, one, 1, [][]int{{n}}, audioOf(depth, []int{0, n, -1}))
			checkPatch(t, two, 1, [][]int{{n, 0}, {0, n}}, audioOf(depth, []int{0, n, 0}, []int{1, 0, n}))
		}
		for _, n := range append([]int{low - 1, top + 1}, farNumbers...) {
			checkNoPatch(t, "a sample beside its range", one, 1, [][]int{{n}})
			checkNoPatch(t, "a last sample beside its range", one, 0, [][]int{{0, 0, n}})
			checkNoPatch(t, "a sample beside its range on the right", two, 1, [][]int{{0, 0}, {0, n}})
			checkNoPatch(t, "a sample beside its range on the left", two, 1, [][]int{{n, 0}, {0, 0}})
		}
	}
}

func TestNoiseOfExamples(t *testing.T) {
	for _, c := range []struct {
		left, right []int
		want        int
	}{
		{[]int{1, 2, 3}, []int{1, 2, 3}, 0}, {[]int{1, 2, 3}, []int{1, 2, 4}, 1}, {[]int{1, 2, 3}, []int{0, 2, 3}, 1}, {[]int{1, 2, 3}, []int{2, 1, 3}, 2}, {[]int{1, 2, 3, 4, 5}, []int{1, 9, 9, 4, 7}, 89},
		{[]int{-128}, []int{127}, 65025}, {[]int{-1, -1}, []int{1, -3}, 8}, {nil, nil, 0}, {[]int{5, 6, 7}, []int{-5, -6, -7}, 440}, {[]int{1, 2, 3}, []int{2, 3, 1}, 6},
	} {
		zero := make([]int, len(c.left))
		checkNoise(t, audioOf(8, c.left), audioOf(8, c.right), c.want)
		checkNoise(t, audioOf(8, c.left, zero), audioOf(8, c.right, zero), c.want)
		checkNoise(t, audioOf(8, zero, c.left), audioOf(8, zero, c.right), c.want)
		checkNoise(t, audioOf(8, c.left, c.right), audioOf(8, c.right, c.left), 2*c.want)
	}
}

func TestComparisonsFollowTheirDefinition(t *testing.T) {
	r := rand.New(rand.NewSource(1))
	for range 600 {
		a := someLevels(r, []int{8, 50, impl.MaxTotal}[r.Intn(3)])
		b := someVersion(r, a)
		if r.Intn(5) == 0 {
			b = impl.Audio{Rate: a.Rate, Depth: a.Depth}
			for range a.Channels {
				b.Channels = append(b.Channels, someLine(r, len(a.Channels[0]), a.Depth))
			}
		}
		checkRanges(t, a, b, slowRanges(a, b))
		checkNoise(t, a, b, slowNoise(a, b))
		from := r.Intn(len(a.Channels[0]) + 1)
		samples := cutChannels(b, from, r.Intn(len(a.Channels[0])-from+1))
		checkPatch(t, a, from, samples, slowPatch(a, from, samples))
	}
}

func TestComparisonsTouchNothing(t *testing.T) {
	left, right := roomy([]int{1, -2, 3, 4}), roomy([]int{-4, 5, -6, 7})
	first, second := []int{1, -2, 3, 4}, []int{-4, 5, -6, 7}
	a, b := audioOf(4, left, right), audioOf(4, right, left)
	if ranges := impl.DifferentRanges(a, b); !slices.Equal(ranges, rangesOf(0, 4)) || impl.NoiseOf(a, b) != 2*(25+49+81+9) {
		t.Errorf("DifferentRanges(%v, %v) = %v", a, b, ranges)
	}
	patch, other := roomy([]int{6, 7}), roomy([]int{-8, 0})
	for _, c := range []struct {
		from    int
		samples [][]int
		want    [][]int
	}{
		{1, [][]int{patch, other}, [][]int{{1, 6, 7, 4}, {-4, -8, 0, 7}}}, {2, [][]int{patch, patch}, [][]int{{1, -2, 6, 7}, {-4, 5, 6, 7}}}, {0, [][]int{patch[:0], other[:0]}, [][]int{first, second}},
		{0, [][]int{right, left}, [][]int{second, first}}, {0, [][]int{left, right}, [][]int{first, second}}, {4, [][]int{nil, nil}, [][]int{first, second}},
	} {
		got, ok := impl.PatchAudio(a, c.from, c.samples)
		if !ok || !sameChannels(got.Channels, c.want) {
			t.Fatalf("PatchAudio = %v, %v instead of %v", got, ok, c.want)
		}
		checkUntouched(t, left, first, got.Channels[0])
		if !slices.Equal(got.Channels[1], c.want[1]) {
			t.Errorf("the second channel became %v", got.Channels[1])
		}
		checkUntouched(t, right, second, got.Channels[1])
		checkUntouched(t, patch, []int{6, 7}, nil)
		checkUntouched(t, other, []int{-8, 0}, nil)
		got.Channels[0] = nil
		if !sameChannels(a.Channels, [][]int{first, second}) {
			t.Errorf("the channels became %v", a.Channels)
		}
	}
}

func TestP119RangesHaveAllDifferences(t *testing.T) {
	r := rand.New(rand.NewSource(119))
	several := 0
	for range 500 {
		a := someLevels(r, 60)
		b := someVersion(r, a)
		ranges := impl.DifferentRanges(a, b)
		indices := indicesOf(ranges)
		for i := range a.Channels[0] {
			differ := false
			for c := range a.Channels {
				differ = differ || a.Channels[c][i] != b.Channels[c][i]
			}
			if differ != slices.Contains(indices, i) {
				t.Errorf("DifferentRanges(%v, %v) = %v is wrong at %d", a, b, ranges, i)
			}
		}
		for k, j := range ranges {
			if j.From >= j.To || j.From < 0 || j.To > len(a.Channels[0]) || k > 0 && ranges[k-1].To >= j.From {
				t.Errorf("DifferentRanges(%v, %v) = %v", a, b, ranges)
			}
		}
		if len(ranges) > 1 {
			several++
		}
	}
	if several < 200 {
		t.Errorf("only %d pairs of audios differ in several ranges", several)
	}
}

func TestP120DifferencesCanBeSent(t *testing.T) {
	r := rand.New(rand.NewSource(120))
	changed := 0
	for range 500 {
		a := someLevels(r, 60)
		b := someVersion(r, a)
		sent := a
		for _, j := range impl.DifferentRanges(a, b) {
			changed++
			next, ok := impl.PatchAudio(sent, j.From, cutChannels(b, j.From, j.To-j.From))
			if !ok {
				t.Fatalf("PatchAudio of %v at %v fails", sent, j)
			}
			sent = next
		}
		if !sameAudio(sent, b) {
			t.Errorf("%v with all differences of %v became %v", a, b, sent)
		}
	}
	if changed < 1000 {
		t.Errorf("only %d differences were sent", changed)
	}
}

// somePatch returns valid audio, an index, and samples for it that can be replaced from this index on; all are the same in every run.
func somePatch(r *rand.Rand) (impl.Audio, int, [][]int) {
	a, from := someSplit(r, 60)
	count := r.Intn(len(a.Channels[0]) - from + 1)
	samples := [][]int{}
	for range a.Channels {
		samples = append(samples, someLine(r, count, a.Depth))
	}
	return a, from, samples
}

// patched returns what PatchAudio makes of audio, which has to succeed.
func patched(t *testing.T, a impl.Audio, from int, samples [][]int) impl.Audio {
	t.Helper()
	b, ok := impl.PatchAudio(a, from, samples)
	if !ok || !impl.ValidAudio(b) {
		t.Fatalf("PatchAudio(%v, %d, %v) = %v, %v", a, from, samples, b, ok)
	}
	return b
}

func TestP121PatchesChangeOnlyTheirSamples(t *testing.T) {
	r := rand.New(rand.NewSource(121))
	for range 500 {
		a, from, samples := somePatch(r)
		b := patched(t, a, from, samples)
		count, total := len(samples[0]), len(a.Channels[0])
		if !sameChannels(cutChannels(b, from, count), samples) {
			t.Errorf("PatchAudio(%v, %d, %v) = %v does not have the samples", a, from, samples, b)
		}
		if b.Rate != a.Rate || b.Depth != a.Depth || !sameChannels(cutChannels(b, 0, from), cutChannels(a, 0, from)) {
			t.Errorf("PatchAudio(%v, %d, %v) = %v differs before the index", a, from, samples, b)
		}
		if rest := total - from - count; !sameChannels(cutChannels(b, from+count, rest), cutChannels(a, from+count, rest)) {
			t.Errorf("PatchAudio(%v, %d, %v) = %v differs behind the samples", a, from, samples, b)
		}
		for _, j := range impl.DifferentRanges(a, b) {
			if j.From < from || j.To > from+count {
				t.Errorf("PatchAudio(%v, %d, %v) differs at %v", a, from, samples, j)
			}
		}
	}
}

func TestP122EqualAudioHasNoNoise(t *testing.T) {
	r := rand.New(rand.NewSource(122))
	equal := 0
	for range 500 {
		a := someLevels(r, 20)
		b := someVersion(r, a)
		ranges, noise := impl.DifferentRanges(a, b), impl.NoiseOf(a, b)
		if (noise == 0) != (len(ranges) == 0) || noise < 0 {
			t.Errorf("NoiseOf(%v, %v) = %d, and DifferentRanges = %v", a, b, noise, ranges)
		}
		if noise == 0 {
			equal++
		}
		checkNoise(t, a, b, noise)
		checkNoise(t, a, a, 0)
	}
	if equal < 50 || equal > 300 {
		t.Errorf("%d pairs of audios are equal", equal)
	}
}

func TestP153PatchesCanBeRepeatedAndTakenBack(t *testing.T) {
	r := rand.New(rand.NewSource(153))
	for range 500 {
		a, from, samples := somePatch(r)
		b := patched(t, a, from, samples)
		checkPatch(t, b, from, samples, b)
		checkPatch(t, b, from, cutChannels(a, from, len(samples[0])), a)
	}
}

func TestP154NoiseComesFromDifferences(t *testing.T) {
	r := rand.New(rand.NewSource(154))
	noisy := 0
	for range 500 {
		a, from, samples := somePatch(r)
		sum := 0
		for c, list := range samples {
			for i, n := range list {
				sum += (n - a.Channels[c][from+i]) * (n - a.Channels[c][from+i])
			}
		}
		checkNoise(t, a, patched(t, a, from, samples), sum)
		if sum > 0 {
			noisy++
		}
	}
	if noisy < 200 {
		t.Errorf("only %d patches are noisy", noisy)
	}
}

func TestP161DirectionsDoNotMatterForNoise(t *testing.T) {
	r := rand.New(rand.NewSource(161))
	for range 300 {
		a := someLevels(r, 60)
		b := someVersion(r, a)
		want := impl.NoiseOf(a, b)
		if want != slowNoise(a, b) {
			t.Errorf("NoiseOf(%v, %v) = %d", a, b, want)
		}
		checkNoise(t, impl.ReverseAudio(a), impl.ReverseAudio(b), want)
	}
}
