package tests

import (
	"math/rand"
	"slices"
	"testing"

	"loop.example/losslessaudio/impl"
)

// slowCorrelation returns the sums of products by their definition.
func slowCorrelation(list []int, most int) []int {
	sums := make([]int, most+1)
	for i := range list {
		for j := range i + 1 {
			if i-j <= most {
				sums[i-j] += list[i] * list[j]
			}
		}
	}
	return sums
}

// energyOf returns the sum of squares of the last numbers of a residual.
func energyOf(residual []int, count int) int {
	sum := 0
	for _, n := range lastNumbers(residual, count) {
		sum += n * n
	}
	return sum
}

// slowBest returns the index of the best one of valid predictors by its definition, and how many later ones are as good.
func slowBest(list []int, candidates []impl.Linear) (int, int) {
	best, least, ties := -1, 0, 0
	for i, p := range candidates {
		residual, ok := slowLinear(list, p)
		if !ok {
			continue
		}
		energy := energyOf(residual, len(list)-8)
		if best < 0 || energy < least {
			best, least, ties = i, energy, 0
		} else if energy == least {
			ties++
		}
	}
	return best, ties
}

// someCandidates returns valid predictors that are the same in every run.
func someCandidates(r *rand.Rand) []impl.Linear {
	list := make([]impl.Linear, r.Intn(impl.MaxCandidates+1))
	for i := range list {
		list[i] = somePredictor(r)
		if i > 0 && r.Intn(3) == 0 {
			list[i] = list[r.Intn(i)]
		}
	}
	return list
}

// powers are samples that the coefficient 2 predicts.
var powers = []int{1, 2, 4, 8, 16, 32, 64, 128, 256, 512}

func TestLimitOfCandidates(t *testing.T) {
	if impl.MaxCandidates != 12 {
		t.Error("a limit is wrong")
	}
}

func TestAutoCorrelationExamples(t *testing.T) {
	top := impl.MaxSample
	for _, c := range []struct {
		list []int
		most int
		want []int
	}{
		{[]int{1, 2, 3}, 0, []int{14}}, {[]int{1, 2, 3}, 2, []int{14, 8, 3}}, {[]int{-1, 2, -3}, 1, []int{14, -8}},
		// There are no samples so far apart.
		{[]int{1, 2, 3}, 4, []int{14, 8, 3, 0, 0}}, {[]int{5}, 8, []int{25, 0, 0, 0, 0, 0, 0, 0, 0}}, {nil, 0, []int{0}}, {[]int{}, 8, make([]int, 9)},
		{slices.Repeat([]int{top}, 64), 8, []int{64 * top * top, 63 * top * top, 62 * top * top, 61 * top * top, 60 * top * top, 59 * top * top, 58 * top * top, 57 * top * top, 56 * top * top}},
		{slices.Repeat([]int{top, -top}, 32), 1, []int{64 * top * top, -63 * top * top}},
	} {
		if got := impl.AutoCorrelation(c.list, c.most); !slices.Equal(got, c.want) {
			t.Errorf("AutoCorrelation(%v, %d) = %v instead of %v", c.list, c.most, got, c.want)
		}
	}
}

func TestAutoCorrelationFollowsItsDefinition(t *testing.T) {
	r := rand.New(rand.NewSource(1))
	for count := range impl.MaxBlock + 1 {
		for most := range impl.MaxOrder + 1 {
			list := someSamples(r, count)
			if got, want := impl.AutoCorrelation(list, most), slowCorrelation(list, most); !slices.Equal(got, want) {
				t.Errorf("AutoCorrelation(%v, %d) = %v instead of %v", list, most, got, want)
			}
		}
	}
}

func TestAutoCorrelationOfInvalidArguments(t *testing.T) {
	for _, most := range append([]int{-1, -2, 9, 10, 64}, farNumbers...) {
		for _, list := range [][]int{nil, {1, 2, 3}, make([]int, impl.MaxBlock)} {
			if got := impl.AutoCorrelation(list, most); len(got) > 0 {
				t.Errorf("AutoCorrelation(%v, %d) = %v", list, most, got)
			}
		}
	}
	for name, list := range invalidSamples() {
		for most := range impl.MaxOrder + 1 {
			if got := impl.AutoCorrelation(list, most); len(got) > 0 {
				t.Errorf("AutoCorrelation of %s up to %d = %v", name, most, got)
			}
		}
	}
}

func TestBestLinearExamples(t *testing.T) {
	one, two, half, zero := impl.Linear{Coefs: []int{1}}, impl.Linear{Coefs: []int{2}}, impl.Linear{Coefs: []int{4}, Shift: 1}, impl.Linear{Coefs: []int{0}}
	long := impl.Linear{Coefs: make([]int, 8)}
	for _, c := range []struct {
		list       []int
		candidates []impl.Linear
		want       int
	}{
		{powers, []impl.Linear{one, two, half}, 1}, {powers, []impl.Linear{half, one, two}, 0}, {powers, []impl.Linear{one, half, two}, 1},
		{powers, []impl.Linear{zero}, 0}, {powers, []impl.Linear{zero, one}, 1}, {powers, []impl.Linear{long, zero, one, one}, 2},
		{powers, nil, -1}, {nil, nil, -1}, {nil, []impl.Linear{one}, -1}, {[]int{3}, []impl.Linear{long, one, two}, 1},
		// At most eight samples tell nothing, so the first candidate that can be used is as good as all others.
		{powers[:8], []impl.Linear{long, two}, 0}, {powers[:7], []impl.Linear{long, zero, two}, 1}, {powers[2:10], []impl.Linear{zero, two}, 0}, {powers[:9], []impl.Linear{zero, two}, 1},
		// What the first eight samples cost does not count.
		{[]int{60000, -60000, 60000, -60000, 60000, -60000, 60000, 5, 5}, []impl.Linear{zero, one}, 1},
		// 3 and 3 have a smaller sum of squares than 5 and 0, but a greater sum of absolute values.
		{[]int{0, 0, 0, 0, 0, 0, 0, -2, 3, 3}, []impl.Linear{one, zero}, 1},
	} {
		if got := impl.BestLinear(c.list, c.candidates); got != c.want {
			t.Errorf("BestLinear(%v, %v) = %d instead of %d", c.list, c.candidates, got, c.want)
		}
	}
}

func TestBestLinearFollowsItsDefinition(t *testing.T) {
	r := rand.New(rand.NewSource(2))
	found, tied := map[int]int{}, 0
	for range 3000 {
		list, candidates := someSamples(r, r.Intn(impl.MaxBlock+1)), someCandidates(r)
		want, ties := slowBest(list, candidates)
		if got := impl.BestLinear(list, candidates); got != want {
			t.Errorf("BestLinear(%v, %v) = %d instead of %d", list, candidates, got, want)
		}
		found[want]++
		if ties > 0 && len(list) > 8 {
			tied++
		}
	}
	if len(found) != impl.MaxCandidates+1 || tied < 50 {
		t.Errorf("the predictors have the indices %v and %d ties", found, tied)
	}
}

func TestBestLinearPassesOverPredictorsWithoutAResidual(t *testing.T) {
	two, one := impl.Linear{Coefs: []int{2}}, impl.Linear{Coefs: []int{1}}
	for name, p := range invalidPredictors() {
		if got := impl.BestLinear(powers, []impl.Linear{p}); got != -1 {
			t.Errorf("BestLinear of %s = %d", name, got)
		}
		for index, candidates := range [][]impl.Linear{{two, p, one}, {p, two, one}, {p, one, two}, {p, p, one, two, p}} {
			if got := impl.BestLinear(powers, candidates); got != index {
				t.Errorf("BestLinear of %s and others = %d instead of %d", name, got, index)
			}
		}
	}
	// The residual of the first candidate has one number that is too large, where it does not count.
	list := []int{impl.MaxSample, 0, 0, 0, 0, 0, 0, 0, 0, 5, 5}
	if got := impl.BestLinear(list, []impl.Linear{{Coefs: []int{64}}, one}); got != 1 {
		t.Errorf("BestLinear behind a predictor that fails = %d", got)
	}
	if got := impl.BestLinear(list, []impl.Linear{{Coefs: []int{64}}, {Coefs: []int{-64}}}); got != -1 {
		t.Errorf("BestLinear of predictors that fail = %d", got)
	}
}

func TestBestLinearOfInvalidArguments(t *testing.T) {
	one, two := impl.Linear{Coefs: []int{1}}, impl.Linear{Coefs: []int{2}}
	most := append(slices.Repeat([]impl.Linear{one}, impl.MaxCandidates-1), two)
	if got := impl.BestLinear(powers, most); got != impl.MaxCandidates-1 {
		t.Errorf("BestLinear of MaxCandidates predictors = %d", got)
	}
	for _, more := range [][]impl.Linear{append(slices.Clone(most), one), append([]impl.Linear{two}, most...), make([]impl.Linear, 13), make([]impl.Linear, 100)} {
		if got := impl.BestLinear(powers, more); got != -1 {
			t.Errorf("BestLinear of %d predictors = %d", len(more), got)
		}
	}
	for name, list := range invalidSamples() {
		for _, candidates := range [][]impl.Linear{nil, {{Coefs: []int{0}}}, {one, two}} {
			if got := impl.BestLinear(list, candidates); got != -1 {
				t.Errorf("BestLinear of %s = %d", name, got)
			}
		}
	}
}

func TestCorrelationsTouchNothing(t *testing.T) {
	list := roomy(powers)
	checkUntouched(t, list, powers, impl.AutoCorrelation(list, 3))
	candidates := []impl.Linear{{Coefs: roomy([]int{1, 1})}, {Coefs: roomy([]int{2, 0})}}
	if got := impl.BestLinear(list, candidates); got != 1 {
		t.Errorf("BestLinear = %d", got)
	}
	checkUntouched(t, list, powers, nil)
	checkUntouched(t, candidates[0].Coefs, []int{1, 1}, nil)
	checkUntouched(t, candidates[1].Coefs, []int{2, 0}, nil)
}

func TestP32NoCorrelationIsGreaterThanTheEnergy(t *testing.T) {
	r := rand.New(rand.NewSource(32))
	for range 1000 {
		list := someSamples(r, r.Intn(impl.MaxBlock+1))
		sums := impl.AutoCorrelation(list, impl.MaxOrder)
		if len(sums) != impl.MaxOrder+1 || sums[0] < 0 {
			t.Fatalf("AutoCorrelation(%v) = %v", list, sums)
		}
		for _, n := range sums {
			if n > sums[0] || -n > sums[0] {
				t.Errorf("AutoCorrelation(%v) = %v has %d", list, sums, n)
			}
		}
	}
}

func TestP33SignsAndDirectionsDoNotMatter(t *testing.T) {
	r := rand.New(rand.NewSource(33))
	for range 1000 {
		list, most := someSamples(r, r.Intn(impl.MaxBlock+1)), r.Intn(impl.MaxOrder+1)
		sums := impl.AutoCorrelation(list, most)
		back := slices.Clone(list)
		slices.Reverse(back)
		if len(sums) != most+1 || !slices.Equal(impl.AutoCorrelation(negated(list), most), sums) || !slices.Equal(impl.AutoCorrelation(back, most), sums) {
			t.Errorf("AutoCorrelation(%v) with other signs or in reverse order is not %v", list, sums)
		}
	}
}

func TestP34TheBestPredictorCanBeUsed(t *testing.T) {
	r := rand.New(rand.NewSource(34))
	none := 0
	for range 1000 {
		list, candidates := someSamples(r, r.Intn(impl.MaxBlock+1)), someCandidates(r)
		usable := make([]bool, len(candidates))
		for i, p := range candidates {
			_, usable[i] = impl.LinearResidual(list, p)
		}
		best := impl.BestLinear(list, candidates)
		if best == -1 {
			none++
		}
		if best == -1 && slices.Contains(usable, true) || best != -1 && (best < 0 || best >= len(usable) || !usable[best]) {
			t.Errorf("BestLinear(%v, %v) = %d", list, candidates, best)
		}
		if got := impl.BestLinear(list, nil); got != -1 {
			t.Errorf("BestLinear without candidates = %d", got)
		}
	}
	if none < 50 || none > 500 {
		t.Errorf("%d of 1000 lists have no predictor", none)
	}
}

func TestP35NoCandidateIsBetter(t *testing.T) {
	r := rand.New(rand.NewSource(35))
	compared := 0
	for range 1000 {
		list, candidates := someSamples(r, r.Intn(impl.MaxBlock+1)), someCandidates(r)
		best := impl.BestLinear(list, candidates)
		if best < 0 {
			continue
		}
		residual, _ := impl.LinearResidual(list, candidates[best])
		least := energyOf(residual, len(list)-impl.MaxOrder)
		for _, p := range candidates {
			other, ok := impl.LinearResidual(list, p)
			if !ok {
				continue
			}
			compared++
			if energy := energyOf(other, len(list)-impl.MaxOrder); energy < least {
				t.Errorf("the energy of %v is %d, less than %d of %v", p, energy, least, candidates[best])
			}
		}
	}
	if compared < 1000 {
		t.Errorf("only %d predictors were compared", compared)
	}
}
