package tests

import (
	"math/big"
	"math/rand"
	"slices"
	"testing"

	"loop.example/losslessaudio/impl"
)

// downOf returns a number divided by a positive one and rounded down, formed without the program.
func downOf(n int, den int) int {
	// Euclidean division rounds down if the divisor is positive.
	return int(new(big.Int).Div(big.NewInt(int64(n)), big.NewInt(int64(den))).Int64())
}

// slowLinear returns the residual of a valid predictor by its definition.
func slowLinear(list []int, p impl.Linear) ([]int, bool) {
	if len(list) < len(p.Coefs) {
		return nil, false
	}
	residual := []int{}
	for i := len(p.Coefs); i < len(list); i++ {
		sum := 0
		for j, c := range p.Coefs {
			sum += c * list[i-1-j]
		}
		n := list[i] - downOf(sum, 1<<p.Shift)
		if n < -impl.MaxResidual || n > impl.MaxResidual {
			return nil, false
		}
		residual = append(residual, n)
	}
	return residual, true
}

// somePredictor returns a valid predictor that is the same in every run and seldom predicts numbers that are far too large.
func somePredictor(r *rand.Rand) impl.Linear {
	shift := r.Intn(impl.MaxShift + 1)
	return impl.Linear{Coefs: smallNumbers(r, 1+r.Intn(impl.MaxOrder), min(impl.MaxCoef, 2<<shift)), Shift: shift}
}

// predictorsAtLimits are valid predictors of which nothing could be greater.
func predictorsAtLimits() map[string]impl.Linear {
	return map[string]impl.Linear{
		"most coefficients":       {Coefs: make([]int, impl.MaxOrder)},
		"greatest coefficients":   {Coefs: slices.Repeat([]int{impl.MaxCoef}, impl.MaxOrder), Shift: impl.MaxShift},
		"smallest coefficients":   {Coefs: slices.Repeat([]int{-impl.MaxCoef}, impl.MaxOrder), Shift: impl.MaxShift},
		"one without a shift":     {Coefs: []int{impl.MaxCoef}},
		"one with both limits":    {Coefs: []int{-impl.MaxCoef}, Shift: impl.MaxShift},
		"greatest one at the end": {Coefs: []int{0, 0, 0, impl.MaxCoef}, Shift: 3},
	}
}

// invalidPredictors are all kinds of predictors that are not valid.
func invalidPredictors() map[string]impl.Linear {
	all := map[string]impl.Linear{
		"no coefficients":            {},
		"no coefficients, one shift": {Coefs: []int{}, Shift: 1},
		"one coefficient too many":   {Coefs: make([]int, impl.MaxOrder+1)},
		"many coefficients":          {Coefs: make([]int, 100)},
		"one more than MaxCoef":      {Coefs: []int{impl.MaxCoef + 1}},
		"one less than -MaxCoef":     {Coefs: []int{-impl.MaxCoef - 1}, Shift: 14},
		"last one too great":         {Coefs: []int{0, 0, impl.MaxCoef + 1}},
		"negative shift":             {Coefs: []int{1}, Shift: -1},
		"one more than MaxShift":     {Coefs: []int{1}, Shift: impl.MaxShift + 1},
		"shift of 63":                {Coefs: []int{1}, Shift: 63},
		"shift of 64":                {Coefs: []int{1}, Shift: 64},
	}
	for i, n := range farNumbers {
		all["far coefficient "+string(rune('a'+i))] = impl.Linear{Coefs: []int{n}}
		all["far shift "+string(rune('a'+i))] = impl.Linear{Coefs: []int{1}, Shift: n}
	}
	return all
}

// samePredictor reports whether predictors are the same; nil and empty slices are.
func samePredictor(a impl.Linear, b impl.Linear) bool {
	return a.Shift == b.Shift && slices.Equal(a.Coefs, b.Coefs)
}

func TestLimitsOfLinearPredictors(t *testing.T) {
	if impl.MaxOrder != 8 || impl.MaxCoef != 4095 || impl.MaxShift != 14 || impl.MaxNumerator != 99999 {
		t.Error("a limit is wrong")
	}
}

func TestLinearResidualExamples(t *testing.T) {
	for _, c := range []struct {
		list []int
		p    impl.Linear
		want []int
	}{
		{[]int{1, 2, 4, 8}, impl.Linear{Coefs: []int{3}, Shift: 1}, []int{1, 1, 2}},
		// The first coefficient belongs to the last sample.
		{[]int{1, 10, 100}, impl.Linear{Coefs: []int{2, 5}}, []int{75}},
		{[]int{1, 0, 0, 50}, impl.Linear{Coefs: []int{7, 8, 9}}, []int{41}},
		{[]int{-5, 3, 9}, impl.Linear{Coefs: []int{0}, Shift: 14}, []int{3, 9}},
		{[]int{9}, impl.Linear{Coefs: []int{1}}, nil},
		// -1, -3 and -5 divided by 2 or 4 are rounded down, not to 0.
		{[]int{-1, 0}, impl.Linear{Coefs: []int{1}, Shift: 1}, []int{1}}, {[]int{-1, 0}, impl.Linear{Coefs: []int{1}, Shift: 14}, []int{1}},
		{[]int{-3, 0}, impl.Linear{Coefs: []int{1}, Shift: 1}, []int{2}}, {[]int{3, 0}, impl.Linear{Coefs: []int{-1}, Shift: 1}, []int{2}},
		{[]int{-5, 0}, impl.Linear{Coefs: []int{1}, Shift: 2}, []int{2}}, {[]int{5, 0}, impl.Linear{Coefs: []int{1}, Shift: 2}, []int{-1}},
		{[]int{-4, 0}, impl.Linear{Coefs: []int{1}, Shift: 2}, []int{1}},
		// Only the sum is rounded, not each product.
		{[]int{-1, -1, 0}, impl.Linear{Coefs: []int{1, 1}, Shift: 1}, []int{1}}, {[]int{1, 1, 0}, impl.Linear{Coefs: []int{1, 1}, Shift: 1}, []int{-1}},
	} {
		if got, ok := impl.LinearResidual(c.list, c.p); !ok || !slices.Equal(got, c.want) {
			t.Errorf("LinearResidual(%v, %v) = %v, %v instead of %v", c.list, c.p, got, ok, c.want)
		}
	}
}

func TestLinearResidualRoundsDown(t *testing.T) {
	for shift := range impl.MaxShift + 1 {
		for n := -40; n <= 40; n++ {
			for _, c := range []int{1, -1, 3, -impl.MaxCoef} {
				got, ok := impl.LinearResidual([]int{n, 0}, impl.Linear{Coefs: []int{c}, Shift: shift})
				if want := -downOf(c*n, 1<<shift); !ok || !slices.Equal(got, []int{want}) {
					t.Errorf("LinearResidual of 0 behind %d times %d, shift %d, = %v, %v instead of %d", n, c, shift, got, ok, want)
				}
			}
		}
	}
}

func TestLinearResidualFollowsItsDefinition(t *testing.T) {
	r := rand.New(rand.NewSource(1))
	succeeded, failed := 0, 0
	for i := range 3000 {
		list, p := someSamples(r, r.Intn(impl.MaxBlock+1)), somePredictor(r)
		if i%3 == 0 {
			p.Coefs = smallNumbers(r, len(p.Coefs), impl.MaxCoef)
		}
		got, ok := impl.LinearResidual(list, p)
		want, wantOk := slowLinear(list, p)
		if ok != wantOk || !slices.Equal(got, want) {
			t.Errorf("LinearResidual(%v, %v) = %v, %v instead of %v, %v", list, p, got, ok, want, wantOk)
		}
		if ok {
			succeeded++
		} else if len(list) >= len(p.Coefs) {
			failed++
		}
	}
	if succeeded < 500 || failed < 100 {
		t.Errorf("%d predictors have a residual, %d have none", succeeded, failed)
	}
}

func TestLinearOrdersUpToTheNumberOfSamples(t *testing.T) {
	for order := 1; order <= impl.MaxOrder; order++ {
		p := impl.Linear{Coefs: slices.Repeat([]int{1}, order)}
		list := slices.Repeat([]int{3}, order)
		if got, ok := impl.LinearResidual(list, p); !ok || len(got) > 0 {
			t.Errorf("LinearResidual of as many samples as coefficients = %v, %v", got, ok)
		}
		if got, ok := impl.LinearResidual(list[1:], p); ok || len(got) > 0 {
			t.Errorf("LinearResidual of a sample less than coefficients = %v, %v", got, ok)
		}
		if got, ok := impl.LinearResidual(nil, p); ok || len(got) > 0 {
			t.Errorf("LinearResidual of nothing = %v, %v", got, ok)
		}
		if got, ok := impl.LinearRestore(list, nil, p); !ok || !slices.Equal(got, list) {
			t.Errorf("LinearRestore without a residual = %v, %v", got, ok)
		}
		for _, warm := range [][]int{nil, list[1:], append(slices.Clone(list), 3)} {
			if got, ok := impl.LinearRestore(warm, []int{1}, p); ok || len(got) > 0 {
				t.Errorf("LinearRestore of %d samples and %d coefficients = %v, %v", len(warm), order, got, ok)
			}
		}
	}
}

func TestLinearResidualUpToMaxResidual(t *testing.T) {
	top := impl.MaxSample
	for _, c := range []struct {
		list []int
		p    impl.Linear
		want int
		ok   bool
	}{
		{[]int{top, 1}, impl.Linear{Coefs: []int{64}}, -impl.MaxResidual, true}, {[]int{top, 0}, impl.Linear{Coefs: []int{64}}, 0, false},
		{[]int{top, -1}, impl.Linear{Coefs: []int{-64}}, impl.MaxResidual, true}, {[]int{top, 0}, impl.Linear{Coefs: []int{-64}}, 0, false},
		{[]int{-top, -1}, impl.Linear{Coefs: []int{128}, Shift: 1}, impl.MaxResidual, true}, {[]int{-top, 0}, impl.Linear{Coefs: []int{128}, Shift: 1}, 0, false},
	} {
		got, ok := impl.LinearResidual(c.list, c.p)
		if ok != c.ok || ok && !slices.Equal(got, []int{c.want}) || !ok && len(got) > 0 {
			t.Errorf("LinearResidual(%v, %v) = %v, %v", c.list, c.p, got, ok)
		}
		if !ok {
			continue
		}
		if back, ok := impl.LinearRestore(c.list[:1], got, c.p); !ok || !slices.Equal(back, c.list) {
			t.Errorf("LinearRestore of the residual %v = %v, %v", got, back, ok)
		}
		// The sample would be 0, but its residual is not valid.
		if back, ok := impl.LinearRestore(c.list[:1], []int{got[0] - c.list[1]}, c.p); ok || len(back) > 0 {
			t.Errorf("LinearRestore of a residual out of range = %v, %v", back, ok)
		}
	}
	// A number out of range between others is enough.
	if got, ok := impl.LinearResidual([]int{0, 0, top, 0, 0}, impl.Linear{Coefs: []int{64}}); ok || len(got) > 0 {
		t.Errorf("LinearResidual with one number out of range = %v, %v", got, ok)
	}
}

func TestLinearPredictorsAtTheLimits(t *testing.T) {
	for name, p := range predictorsAtLimits() {
		got, ok := impl.LinearResidual(make([]int, impl.MaxBlock), p)
		if want := make([]int, impl.MaxBlock-len(p.Coefs)); !ok || !slices.Equal(got, want) {
			t.Errorf("LinearResidual with %s = %v, %v", name, got, ok)
		}
		if back, ok := impl.LinearRestore(make([]int, len(p.Coefs)), got, p); !ok || !slices.Equal(back, make([]int, impl.MaxBlock)) {
			t.Errorf("LinearRestore with %s = %v, %v", name, back, ok)
		}
		if back, ok := impl.LinearRestore(make([]int, len(p.Coefs)), append(got, 0), p); ok || len(back) > 0 {
			t.Errorf("LinearRestore of one sample too many with %s = %v, %v", name, back, ok)
		}
	}
}

func TestLinearPredictorsOfInvalidArguments(t *testing.T) {
	for name, p := range invalidPredictors() {
		for _, count := range []int{0, 1, len(p.Coefs), 20} {
			if got, ok := impl.LinearResidual(make([]int, count), p); ok || len(got) > 0 {
				t.Errorf("LinearResidual with %s = %v, %v", name, got, ok)
			}
		}
		for _, residual := range [][]int{nil, {0}} {
			if got, ok := impl.LinearRestore(make([]int, len(p.Coefs)), residual, p); ok || len(got) > 0 {
				t.Errorf("LinearRestore with %s = %v, %v", name, got, ok)
			}
		}
	}
	for name, list := range invalidSamples() {
		p := impl.Linear{Coefs: make([]int, min(len(list)-1, impl.MaxOrder)), Shift: 14}
		if got, ok := impl.LinearResidual(list, p); ok || len(got) > 0 {
			t.Errorf("LinearResidual of %s = %v, %v", name, got, ok)
		}
	}
	for _, n := range append([]int{impl.MaxSample + 1, -impl.MaxSample - 1}, farNumbers...) {
		for _, warm := range [][]int{{n, 0}, {0, n}} {
			for _, residual := range [][]int{nil, {0}, {-n}} {
				if got, ok := impl.LinearRestore(warm, residual, impl.Linear{Coefs: []int{0, 0}}); ok || len(got) > 0 {
					t.Errorf("LinearRestore(%v, %v) = %v, %v", warm, residual, got, ok)
				}
			}
		}
	}
	for name, residual := range invalidResiduals() {
		if got, ok := impl.LinearRestore([]int{0}, residual, impl.Linear{Coefs: []int{1}}); ok || len(got) > 0 {
			t.Errorf("LinearRestore of %s = %v, %v", name, got, ok)
		}
	}
}

func TestLinearRestoreUpToMaxSample(t *testing.T) {
	top := impl.MaxSample
	for _, c := range []struct {
		warm, residual []int
		p              impl.Linear
		want           []int
		ok             bool
	}{
		{[]int{1}, []int{1, 1, 2}, impl.Linear{Coefs: []int{3}, Shift: 1}, []int{1, 2, 4, 8}, true},
		{[]int{top / 2}, []int{0}, impl.Linear{Coefs: []int{2}}, []int{top / 2, top}, true},
		{[]int{top / 2}, []int{1}, impl.Linear{Coefs: []int{2}}, nil, false},
		{[]int{top / 2}, []int{0}, impl.Linear{Coefs: []int{-2}}, []int{top / 2, -top}, true},
		{[]int{top / 2}, []int{-1}, impl.Linear{Coefs: []int{-2}}, nil, false},
		{[]int{top}, []int{top + 1}, impl.Linear{Coefs: []int{0}}, nil, false},
		// The next sample would be in the range again.
		{[]int{top, 0}, []int{top + 1, 0}, impl.Linear{Coefs: []int{0, 0}}, nil, false},
		{[]int{top}, []int{1, -1}, impl.Linear{Coefs: []int{1}}, nil, false},
		// If they were not limited, they would leave the range of an int and come back.
		{[]int{top}, make([]int, 63), impl.Linear{Coefs: []int{1 << 11}}, nil, false},
		{[]int{top, top, top, top, top, top, top, top}, make([]int, 56), impl.Linear{Coefs: slices.Repeat([]int{-4095}, 8)}, nil, false},
	} {
		if got, ok := impl.LinearRestore(c.warm, c.residual, c.p); ok != c.ok || !slices.Equal(got, c.want) {
			t.Errorf("LinearRestore(%v, %v, %v) = %v, %v", c.warm, c.residual, c.p, got, ok)
		}
	}
}

func TestFixedAsLinearExamples(t *testing.T) {
	for order, want := range [][]int{nil, {1}, {2, -1}, {3, -3, 1}, {4, -6, 4, -1}} {
		p, ok := impl.FixedAsLinear(order)
		if ok != (order > 0) || !samePredictor(p, impl.Linear{Coefs: want}) {
			t.Errorf("FixedAsLinear(%d) = %v, %v", order, p, ok)
		}
		for i := range p.Coefs {
			p.Coefs[:cap(p.Coefs)][i] = 99
		}
		if p, _ := impl.FixedAsLinear(order); !samePredictor(p, impl.Linear{Coefs: want}) {
			t.Errorf("FixedAsLinear(%d) = %v after a change of what it returned", order, p)
		}
	}
	for _, order := range append([]int{-1, 5, 8}, farNumbers...) {
		if p, ok := impl.FixedAsLinear(order); ok || !samePredictor(p, impl.Linear{}) {
			t.Errorf("FixedAsLinear(%d) = %v, %v", order, p, ok)
		}
	}
}

func TestQuantizeCoefsExamples(t *testing.T) {
	for _, c := range []struct {
		list       []int
		den, shift int
		want       []int
	}{
		{[]int{1, 1}, 3, 3, []int{3, 2}}, {[]int{0}, 1, 0, []int{0}}, {[]int{0, 0, 0}, 7, 14, []int{0, 0, 0}},
		// Halves are rounded up, also negative ones, and the rest goes to the next coefficient.
		{[]int{1}, 2, 0, []int{1}}, {[]int{3}, 2, 0, []int{2}}, {[]int{-1}, 2, 0, []int{0}}, {[]int{-3}, 2, 0, []int{-1}}, {[]int{-5}, 2, 0, []int{-2}},
		{[]int{1, 1}, 2, 0, []int{1, 0}}, {[]int{-1, -1}, 2, 0, []int{0, -1}}, {[]int{1, 0, 0, 1}, 2, 0, []int{1, 0, 0, 0}},
		{[]int{1, 1, 1, 1}, 4, 0, []int{0, 1, 0, 0}}, {[]int{-1, -1, -1, -1}, 4, 0, []int{0, 0, -1, 0}},
		{[]int{2, 2, 2}, 5, 0, []int{0, 1, 0}}, {[]int{-2, -2, -2}, 5, 0, []int{0, -1, 0}}, {[]int{3}, 5, 0, []int{1}}, {[]int{-3}, 5, 0, []int{-1}},
		{[]int{1}, 5, 14, []int{3277}}, {[]int{-1}, 5, 14, []int{-3277}}, {[]int{1, 2, 3, 4, 5, 6, 7, 8}, 1, 1, []int{2, 4, 6, 8, 10, 12, 14, 16}},
		// The limits themselves.
		{[]int{impl.MaxCoef, -impl.MaxCoef}, 1, 0, []int{impl.MaxCoef, -impl.MaxCoef}}, {[]int{-2*impl.MaxCoef - 1}, 2, 0, []int{-impl.MaxCoef}},
		{[]int{99999}, 99999, 0, []int{1}}, {[]int{-99999}, 99999, 0, []int{-1}}, {[]int{99999}, 99999, 11, []int{2048}}, {[]int{24996}, 99999, 14, []int{4095}},
		{[]int{1}, 99999, 14, []int{0}}, {make([]int, 8), 99999, 0, make([]int, 8)},
	} {
		p, ok := impl.QuantizeCoefs(c.list, c.den, c.shift)
		if !ok || !samePredictor(p, impl.Linear{Coefs: c.want, Shift: c.shift}) {
			t.Errorf("QuantizeCoefs(%v, %d, %d) = %v, %v instead of %v", c.list, c.den, c.shift, p, ok, c.want)
		}
	}
}

func TestQuantizeCoefsThatFail(t *testing.T) {
	type arguments struct {
		list       []int
		den, shift int
	}
	all := []arguments{
		{nil, 1, 0}, {[]int{}, 3, 3}, {make([]int, 9), 1, 0}, {make([]int, 50), 1, 0},
		{[]int{1}, 0, 0}, {[]int{1}, -1, 0}, {[]int{1}, impl.MaxNumerator + 1, 0}, {[]int{0}, 0, 0},
		{[]int{1}, 1, -1}, {[]int{0}, 1, impl.MaxShift + 1}, {[]int{1}, 1, 63}, {[]int{1}, 1, 64},
		{[]int{impl.MaxNumerator + 1}, impl.MaxNumerator, 0}, {[]int{-impl.MaxNumerator - 1}, impl.MaxNumerator, 0}, {[]int{0, 0, 100000}, 99999, 0},
		// Coefficients that are too large.
		{[]int{impl.MaxCoef + 1}, 1, 0}, {[]int{-impl.MaxCoef - 1}, 1, 0}, {[]int{2*impl.MaxCoef + 1}, 2, 0}, {[]int{1}, 4, 14}, {[]int{-1}, 4, 14},
		{[]int{1, 4096}, 1, 0}, {[]int{4096, 1}, 1, 0}, {[]int{99999}, 99999, 12}, {[]int{99999}, 1, 14}, {[]int{24997}, 99999, 14},
		// Only with the rest of the first one.
		{[]int{1, 3 * 4095}, 3, 1}, {[]int{1, 12286}, 3, 0}, {[]int{-1, -12286}, 3, 0},
	}
	for _, n := range farNumbers {
		all = append(all, arguments{[]int{n}, 1, 0}, arguments{[]int{0, n}, 99999, 0}, arguments{[]int{n, -n}, 99999, 14}, arguments{[]int{1}, n, 0}, arguments{[]int{1}, 1, n})
	}
	for _, c := range all {
		if p, ok := impl.QuantizeCoefs(c.list, c.den, c.shift); ok || !samePredictor(p, impl.Linear{}) {
			t.Errorf("QuantizeCoefs(%v, %d, %d) = %v, %v", c.list, c.den, c.shift, p, ok)
		}
	}
}

// slowQuantize returns rounded coefficients by their definition, in exact fractions; false if one is too large.
func slowQuantize(list []int, den int, shift int) ([]int, bool) {
	coefs, ok, rest := []int{}, true, 0
	for _, n := range list {
		n = n*(1<<shift) + rest
		// The nearest number is the greatest one that is at most a half greater.
		half := new(big.Rat).Add(big.NewRat(int64(n), int64(den)), big.NewRat(1, 2))
		c := int(new(big.Int).Div(half.Num(), half.Denom()).Int64())
		rest = n - den*c
		ok = ok && c >= -impl.MaxCoef && c <= impl.MaxCoef
		coefs = append(coefs, c)
	}
	if !ok {
		return nil, false
	}
	return coefs, true
}

// someFractions returns numerators, a denominator and a shift for which most coefficients are not too large.
func someFractions(r *rand.Rand) ([]int, int, int) {
	den, shift := 1+numberBelow(r, 16), r.Intn(impl.MaxShift+1)
	size := min(impl.MaxNumerator, 2+den*5000>>shift)
	return smallNumbers(r, 1+r.Intn(impl.MaxOrder), size), den, shift
}

func TestQuantizeCoefsFollowsItsDefinition(t *testing.T) {
	r := rand.New(rand.NewSource(2))
	succeeded, failed := 0, 0
	for range 5000 {
		list, den, shift := someFractions(r)
		p, ok := impl.QuantizeCoefs(list, den, shift)
		want, wantOk := slowQuantize(list, den, shift)
		if ok != wantOk || !slices.Equal(p.Coefs, want) || ok && p.Shift != shift || !ok && p.Shift != 0 {
			t.Errorf("QuantizeCoefs(%v, %d, %d) = %v, %v instead of %v, %v", list, den, shift, p, ok, want, wantOk)
		}
		if ok {
			succeeded++
		} else {
			failed++
		}
	}
	if succeeded < 1000 || failed < 100 {
		t.Errorf("%d lists have coefficients, %d have none", succeeded, failed)
	}
}

func TestLinearPredictorsTouchNothing(t *testing.T) {
	list, coefs := []int{30, 10, 40, 10, 50, 90}, []int{3, -2}
	p := impl.Linear{Coefs: roomy(coefs), Shift: 1}
	samples := roomy(list)
	residual, ok := impl.LinearResidual(samples, p)
	if !ok {
		t.Fatal("LinearResidual fails")
	}
	numbers := roomy(residual)
	back, ok := impl.LinearRestore(samples[:2:6], numbers, p)
	if !ok {
		t.Fatal("LinearRestore fails")
	}
	checkUntouched(t, numbers, slices.Clone(residual), back)
	checkUntouched(t, samples, list, back)
	checkUntouched(t, samples, list, residual)
	checkUntouched(t, p.Coefs, coefs, residual)
	warm := roomy(list[:2])
	back, _ = impl.LinearRestore(warm, nil, p)
	checkUntouched(t, warm, list[:2], back)
	q, _ := impl.QuantizeCoefs(p.Coefs, 1, 0)
	checkUntouched(t, p.Coefs, coefs, q.Coefs)
}

func TestP26LinearPredictorsRestoreSamples(t *testing.T) {
	r := rand.New(rand.NewSource(26))
	restored := 0
	for range 3000 {
		list, p := someSamples(r, r.Intn(impl.MaxBlock+1)), somePredictor(r)
		residual, ok := impl.LinearResidual(list, p)
		if !ok {
			continue
		}
		restored++
		if back, ok := impl.LinearRestore(list[:len(p.Coefs)], residual, p); !ok || !slices.Equal(back, list) {
			t.Errorf("LinearRestore with %v = %v, %v instead of %v", p, back, ok, list)
		}
	}
	if restored < 1000 {
		t.Errorf("only %d lists have a residual", restored)
	}
}

func TestP27RestoredSamplesHaveTheResidual(t *testing.T) {
	r := rand.New(rand.NewSource(27))
	restored := 0
	for range 3000 {
		p := somePredictor(r)
		warm, residual := smallNumbers(r, len(p.Coefs), 1000), smallNumbers(r, r.Intn(20), 1000)
		list, ok := impl.LinearRestore(warm, residual, p)
		if !ok {
			continue
		}
		restored++
		got, ok := impl.LinearResidual(list, p)
		if !ok || !slices.Equal(got, residual) || !slices.Equal(list[:len(warm)], warm) || len(list) != len(warm)+len(residual) {
			t.Errorf("LinearResidual of what LinearRestore returns with %v = %v, %v instead of %v", p, got, ok, residual)
		}
	}
	if restored < 1000 {
		t.Errorf("only %d residuals were restored", restored)
	}
}

func TestP28CoefficientsAndShiftsBelongTogether(t *testing.T) {
	r := rand.New(rand.NewSource(28))
	succeeded := 0
	for range 2000 {
		list, p := someSamples(r, impl.MaxOrder+r.Intn(50)), somePredictor(r)
		p.Shift = min(p.Shift, impl.MaxShift-1)
		twice := impl.Linear{Shift: p.Shift + 1}
		for i := range p.Coefs {
			p.Coefs[i] /= 2
			twice.Coefs = append(twice.Coefs, 2*p.Coefs[i])
		}
		got, ok := impl.LinearResidual(list, twice)
		want, wantOk := impl.LinearResidual(list, p)
		if ok != wantOk || !slices.Equal(got, want) {
			t.Errorf("LinearResidual with %v = %v, %v instead of %v, %v", twice, got, ok, want, wantOk)
		}
		if ok {
			succeeded++
		}
	}
	if succeeded < 1000 {
		t.Errorf("only %d lists have a residual", succeeded)
	}
}

func TestP29FixedPredictorsAreLinear(t *testing.T) {
	r := rand.New(rand.NewSource(29))
	for count := range impl.MaxBlock + 1 {
		for order := 1; order <= impl.MaxFixed && order <= count; order++ {
			list := someSamples(r, count)
			p, ok := impl.FixedAsLinear(order)
			got, ok2 := impl.LinearResidual(list, p)
			if want := impl.FixedResidual(list, order); !ok || !ok2 || len(got) != count-order || !slices.Equal(got, want) {
				t.Errorf("LinearResidual(%v, %v) = %v, %v instead of %v", list, p, got, ok2, want)
			}
		}
	}
}

func TestP30RoundingErrorsDoNotAddUp(t *testing.T) {
	r := rand.New(rand.NewSource(30))
	succeeded := 0
	for range 5000 {
		list, den, shift := someFractions(r)
		p, ok := impl.QuantizeCoefs(list, den, shift)
		if !ok {
			continue
		}
		succeeded++
		exact, sum := 0, 0
		for i, n := range list {
			exact += n << shift
			sum += p.Coefs[i]
		}
		if miss := 2 * (sum*den - exact); miss < -den || miss > den {
			t.Errorf("the sum of QuantizeCoefs(%v, %d, %d) = %v is not the nearest one", list, den, shift, p)
		}
	}
	if succeeded < 1000 {
		t.Errorf("only %d lists have coefficients", succeeded)
	}
}

func TestP31ExactCoefficientsStay(t *testing.T) {
	r := rand.New(rand.NewSource(31))
	for range 1000 {
		den := 1 + numberBelow(r, 16)
		quotients := smallNumbers(r, 1+r.Intn(impl.MaxOrder), min(impl.MaxCoef, impl.MaxNumerator/den))
		list := make([]int, len(quotients))
		for i, n := range quotients {
			list[i] = n * den
		}
		if p, ok := impl.QuantizeCoefs(list, den, 0); !ok || !samePredictor(p, impl.Linear{Coefs: quotients}) {
			t.Errorf("QuantizeCoefs(%v, %d, 0) = %v, %v", list, den, p, ok)
		}
	}
}

func TestP131NoPredictionIsNoChange(t *testing.T) {
	r := rand.New(rand.NewSource(131))
	for count := 1; count <= impl.MaxBlock; count++ {
		list := someSamples(r, count)
		p := impl.Linear{Coefs: []int{0}, Shift: r.Intn(impl.MaxShift + 1)}
		if got, ok := impl.LinearResidual(list, p); !ok || !slices.Equal(got, list[1:]) {
			t.Errorf("LinearResidual(%v, %v) = %v, %v", list, p, got, ok)
		}
	}
}
