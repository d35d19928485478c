package tests

import (
	"math/rand"
	"slices"
	"testing"

	"loop.example/losslessaudio/impl"
)

// allModes are the modes of two channels.
var allModes = []int{impl.LeftRight, impl.LeftSide, impl.SideRight, impl.MidAndSide}

// slowStereo returns the lists of a mode by their definition.
func slowStereo(mode int, left []int, right []int) ([]int, []int) {
	mid, side := []int{}, []int{}
	for i := range left {
		mid = append(mid, downOf(left[i]+right[i], 2))
		side = append(side, left[i]-right[i])
	}
	switch mode {
	case impl.LeftRight:
		return left, right
	case impl.LeftSide:
		return left, side
	case impl.SideRight:
		return side, right
	}
	return mid, side
}

// changesOf returns the sum of the absolute values of the differences of neighbours.
func changesOf(list []int) int {
	sum := 0
	for i := 1; i < len(list); i++ {
		sum += max(list[i]-list[i-1], list[i-1]-list[i])
	}
	return sum
}

// slowMode returns the best mode by its definition, and how many modes are as good.
func slowMode(left []int, right []int) (int, int) {
	best, least, ties := -1, 0, 0
	for mode := range 4 {
		a, b := slowStereo(mode, left, right)
		sum := changesOf(a) + changesOf(b)
		if best < 0 || sum < least {
			best, least, ties = mode, sum, 0
		} else if sum == least {
			ties++
		}
	}
	return best, ties
}

// someChannels returns two valid channels that are the same in every run and often similar.
func someChannels(r *rand.Rand, count int) ([]int, []int) {
	size := r.Intn(1 << r.Intn(15))
	left, right := smallNumbers(r, count, size), smallNumbers(r, count, size)
	switch r.Intn(5) {
	case 0:
		copy(right, left)
	case 1:
		right = negated(left)
	case 2:
		for i := range right {
			right[i] = left[i] + r.Intn(7)
		}
	case 3:
		for i := range left {
			left[i] = (2*r.Intn(2) - 1) * impl.MaxLevel
			right[i] = (2*r.Intn(2) - 1) * impl.MaxLevel
		}
	}
	return left, right
}

// invalidPairs are all kinds of pairs of lists that have something greater than a limit, or different lengths.
func invalidPairs(most int) map[string][2][]int {
	all := map[string][2][]int{
		"only a left one":               {{1}, nil},
		"only a right one":              {nil, {1}},
		"a shorter left one":            {{1, 2}, {1, 2, 3}},
		"a shorter right one":           {{1, 2, 3}, {1, 2}},
		"one more than the limit":       {{0, most + 1}, {0, 0}},
		"one less than the limit":       {{-most - 1, 0}, {0, 0}},
		"one more on the right":         {{0, 0}, {0, most + 1}},
		"one less on the right":         {{0, 0}, {-most - 1, 0}},
		"one more on both sides":        {{most + 1}, {most + 1}},
		"one less on both sides":        {{-most - 1}, {-most - 1}},
		"one sample more than MaxBlock": {make([]int, impl.MaxBlock+1), make([]int, impl.MaxBlock+1)},
		"one more on the left":          {make([]int, impl.MaxBlock+1), make([]int, impl.MaxBlock)},
		"MaxBlock and one more":         {make([]int, impl.MaxBlock), make([]int, impl.MaxBlock+1)},
		"many samples":                  {make([]int, 1000), make([]int, 1000)},
	}
	for i, n := range farNumbers {
		name := string(rune('a' + i))
		all["far on the left "+name] = [2][]int{{n}, {0}}
		all["far on the right "+name] = [2][]int{{0}, {n}}
		all["far on both sides "+name] = [2][]int{{n}, {n}}
		all["far and opposite "+name] = [2][]int{{n}, {-n}}
	}
	return all
}

func TestLimitsOfStereo(t *testing.T) {
	if impl.MaxLevel != 32767 || !slices.Equal(allModes, []int{0, 1, 2, 3}) {
		t.Error("a limit or a mode is wrong")
	}
}

func TestMidSideExamples(t *testing.T) {
	top := impl.MaxLevel
	for _, c := range []struct{ left, right, mid, side []int }{
		{nil, nil, nil, nil}, {[]int{}, nil, nil, nil}, {[]int{3, 4}, []int{-2, 2}, []int{0, 3}, []int{5, 2}}, {[]int{0, -1, 0}, []int{-1, 0, 1}, []int{-1, -1, 0}, []int{1, -1, -1}},
		{[]int{-3, -3, -3}, []int{-4, -5, -6}, []int{-4, -4, -5}, []int{1, 2, 3}},
		{[]int{top, -top, top, -top}, []int{top, -top, -top, top}, []int{top, -top, 0, 0}, []int{0, 0, 2 * top, -2 * top}},
		{[]int{top, 1 - top}, []int{top - 1, -top}, []int{top - 1, -top}, []int{1, 1}},
	} {
		if mid, side := impl.MidSide(c.left, c.right); !slices.Equal(mid, c.mid) || !slices.Equal(side, c.side) {
			t.Errorf("MidSide(%v, %v) = %v, %v instead of %v, %v", c.left, c.right, mid, side, c.mid, c.side)
		}
		if left, right, ok := impl.FromMidSide(c.mid, c.side); !ok || !slices.Equal(left, c.left) || !slices.Equal(right, c.right) {
			t.Errorf("FromMidSide(%v, %v) = %v, %v, %v instead of %v, %v", c.mid, c.side, left, right, ok, c.left, c.right)
		}
	}
	for name, c := range invalidPairs(impl.MaxLevel) {
		if mid, side := impl.MidSide(c[0], c[1]); len(mid) > 0 || len(side) > 0 {
			t.Errorf("MidSide of %s = %v, %v", name, mid, side)
		}
	}
}

func TestFromMidSideFindsAllChannels(t *testing.T) {
	// Near both limits, there are channels for some pairs, and none for others.
	top := impl.MaxLevel
	for _, start := range [][2]int{{0, 0}, {top, top}, {-top, -top}, {top, -top}, {-top, top}} {
		known := map[[2]int][2]int{}
		for l := start[0] - 4; l <= start[0]+4; l++ {
			for r := start[1] - 4; r <= start[1]+4; r++ {
				known[[2]int{downOf(l+r, 2), l - r}] = [2]int{l, r}
			}
		}
		for pair, channels := range known {
			wanted := max(channels[0], -channels[0], channels[1], -channels[1]) <= top
			left, right, ok := impl.FromMidSide([]int{pair[0]}, []int{pair[1]})
			if ok != wanted || ok && (left[0] != channels[0] || right[0] != channels[1]) || !ok && len(left)+len(right) > 0 {
				t.Errorf("FromMidSide of %v = %v, %v, %v instead of %v", pair, left, right, ok, channels)
			}
		}
	}
}

func TestFromMidSideOfInvalidArguments(t *testing.T) {
	for name, c := range invalidPairs(impl.MaxSample) {
		if left, right, ok := impl.FromMidSide(c[0], c[1]); ok || len(left) > 0 || len(right) > 0 {
			t.Errorf("FromMidSide of %s = %v, %v, %v", name, left, right, ok)
		}
	}
	top := impl.MaxLevel
	for _, c := range [][2]int{{top, 1}, {top, -1}, {top + 1, 0}, {-top - 1, 1}, {-top - 1, 0}, {-top, 2}, {0, 2*top + 1}, {0, -2*top - 1}, {-1, 2*top + 1}, {0, 65536}, {65536, 0}, {-65536, -65536}} {
		// One pair without channels is enough.
		if left, right, ok := impl.FromMidSide([]int{0, c[0]}, []int{0, c[1]}); ok || len(left) > 0 || len(right) > 0 {
			t.Errorf("FromMidSide of %v = %v, %v, %v", c, left, right, ok)
		}
	}
	for _, c := range [][2]int{{top, 0}, {-top, 0}, {-top, 1}, {-top, -1}, {0, 2 * top}, {0, -2 * top}, {top - 1, 1}, {-1, 2*top - 1}} {
		if _, _, ok := impl.FromMidSide([]int{c[0]}, []int{c[1]}); !ok {
			t.Errorf("FromMidSide of %v fails", c)
		}
	}
}

func TestStereoUpToMaxBlock(t *testing.T) {
	all := make([]int, impl.MaxBlock)
	for _, mode := range allModes {
		a, b, ok := impl.EncodeStereo(mode, all, all)
		if !ok || !slices.Equal(a, all) || !slices.Equal(b, all) {
			t.Errorf("EncodeStereo of MaxBlock samples, mode %d, = %v, %v, %v", mode, a, b, ok)
		}
		left, right, ok := impl.DecodeStereo(mode, all, all)
		if !ok || !slices.Equal(left, all) || !slices.Equal(right, all) {
			t.Errorf("DecodeStereo of MaxBlock samples, mode %d, = %v, %v, %v", mode, left, right, ok)
		}
		a, b, ok = impl.EncodeStereo(mode, nil, []int{})
		if !ok || len(a) > 0 || len(b) > 0 {
			t.Errorf("EncodeStereo of nothing, mode %d, = %v, %v, %v", mode, a, b, ok)
		}
		left, right, ok = impl.DecodeStereo(mode, []int{}, nil)
		if !ok || len(left) > 0 || len(right) > 0 {
			t.Errorf("DecodeStereo of nothing, mode %d, = %v, %v, %v", mode, left, right, ok)
		}
	}
	if got := impl.BestStereo(all, all); got != impl.LeftRight {
		t.Errorf("BestStereo of MaxBlock zeros = %d", got)
	}
}

func TestEncodeStereoFollowsItsDefinition(t *testing.T) {
	r := rand.New(rand.NewSource(1))
	for count := range impl.MaxBlock + 1 {
		for _, mode := range allModes {
			left, right := someChannels(r, count)
			wantA, wantB := slowStereo(mode, left, right)
			a, b, ok := impl.EncodeStereo(mode, left, right)
			if !ok || !slices.Equal(a, wantA) || !slices.Equal(b, wantB) {
				t.Errorf("EncodeStereo(%d, %v, %v) = %v, %v, %v", mode, left, right, a, b, ok)
			}
		}
	}
}

func TestStereoOfInvalidArguments(t *testing.T) {
	for _, mode := range append([]int{-1, 4, 5, 8, 256}, farNumbers...) {
		if a, b, ok := impl.EncodeStereo(mode, []int{1}, []int{2}); ok || len(a) > 0 || len(b) > 0 {
			t.Errorf("EncodeStereo with mode %d = %v, %v, %v", mode, a, b, ok)
		}
		if left, right, ok := impl.DecodeStereo(mode, []int{1}, []int{2}); ok || len(left) > 0 || len(right) > 0 {
			t.Errorf("DecodeStereo with mode %d = %v, %v, %v", mode, left, right, ok)
		}
	}
	for _, mode := range allModes {
		for name, c := range invalidPairs(impl.MaxLevel) {
			if a, b, ok := impl.EncodeStereo(mode, c[0], c[1]); ok || len(a) > 0 || len(b) > 0 {
				t.Errorf("EncodeStereo of %s with mode %d = %v, %v, %v", name, mode, a, b, ok)
			}
		}
		for name, c := range invalidPairs(impl.MaxSample) {
			if left, right, ok := impl.DecodeStereo(mode, c[0], c[1]); ok || len(left) > 0 || len(right) > 0 {
				t.Errorf("DecodeStereo of %s with mode %d = %v, %v, %v", name, mode, left, right, ok)
			}
		}
	}
}

func TestDecodeStereoAtTheLimits(t *testing.T) {
	top := impl.MaxLevel
	for _, c := range []struct {
		mode, a, b int
		ok         bool
	}{
		{0, top, -top, true}, {0, -top, top, true}, {0, top + 1, 0, false}, {0, 0, top + 1, false}, {0, -top - 1, 0, false}, {0, 0, -top - 1, false},
		{1, top, 2 * top, true}, {1, -top, -2 * top, true}, {1, top, 2*top + 1, false}, {1, top, -1, false}, {1, -top, 1, false}, {1, top + 1, 1, false}, {1, -top - 1, -1, false}, {1, 0, top, true}, {1, 0, -top - 1, false},
		{2, 2 * top, -top, true}, {2, -2 * top, top, true}, {2, 2*top + 1, -top, false}, {2, 1, top, false}, {2, -1, -top, false}, {2, -1, top + 1, false}, {2, 1, -top - 1, false}, {2, top, 0, true}, {2, -top - 1, 0, false},
		{3, top, 0, true}, {3, top, 1, false}, {3, -top, 1, true}, {3, -top - 1, 1, false},
	} {
		left, right, ok := impl.DecodeStereo(c.mode, []int{0, c.a}, []int{0, c.b})
		if ok != c.ok || !ok && len(left)+len(right) > 0 {
			t.Errorf("DecodeStereo of %v = %v, %v, %v", c, left, right, ok)
		}
		if !ok {
			continue
		}
		if a, b := slowStereo(c.mode, left, right); a[1] != c.a || b[1] != c.b {
			t.Errorf("DecodeStereo of %v = %v, %v", c, left, right)
		}
	}
}

func TestBestStereoExamples(t *testing.T) {
	for _, c := range []struct {
		left, right []int
		want        int
	}{
		{nil, nil, 0}, {[]int{5}, []int{7}, 0}, {[]int{5, 5}, []int{-7, -7}, 0}, {[]int{1, 9, 1}, []int{2, 10, 2}, impl.LeftSide},
		{[]int{0, 10}, []int{0, -10}, impl.LeftRight}, {[]int{0, 6}, []int{0, 10}, impl.LeftSide}, {[]int{0, 10}, []int{0, 6}, impl.SideRight},
		{[]int{0, 10, 15}, []int{0, 10, 5}, impl.MidAndSide}, {[]int{7, 8}, []int{7, 8}, impl.LeftSide},
		// LeftRight is as good as LeftSide, then as SideRight, and then as MidAndSide.
		{[]int{0, 0}, []int{0, 4}, impl.LeftRight}, {[]int{0, 4}, []int{0, 0}, impl.LeftRight}, {[]int{0, 1}, []int{0, -1}, impl.LeftRight},
		// MidAndSide is as good as LeftSide, and then as SideRight.
		{[]int{0, 1}, []int{0, 2}, impl.LeftSide}, {[]int{0, 2}, []int{0, 1}, impl.SideRight},
	} {
		if got := impl.BestStereo(c.left, c.right); got != c.want {
			t.Errorf("BestStereo(%v, %v) = %d instead of %d", c.left, c.right, got, c.want)
		}
	}
	for name, c := range invalidPairs(impl.MaxLevel) {
		if got := impl.BestStereo(c[0], c[1]); got != -1 {
			t.Errorf("BestStereo of %s = %d", name, got)
		}
	}
}

func TestBestStereoFollowsItsDefinition(t *testing.T) {
	r := rand.New(rand.NewSource(2))
	found, tied := map[int]int{}, map[int]int{}
	for i := range 4000 {
		left, right := someChannels(r, r.Intn(impl.MaxBlock+1))
		if i%2 == 1 {
			count := 2 + r.Intn(4)
			left, right = smallNumbers(r, count, 3), smallNumbers(r, count, 3)
		}
		want, ties := slowMode(left, right)
		if got := impl.BestStereo(left, right); got != want {
			t.Errorf("BestStereo(%v, %v) = %d instead of %d", left, right, got, want)
		}
		found[want]++
		if ties > 0 {
			tied[want]++
		}
	}
	if len(found) != 4 || len(tied) < 3 {
		t.Errorf("the channels have the modes %v, and with ties %v", found, tied)
	}
}

func TestStereoTouchesNothing(t *testing.T) {
	wasLeft, wasRight := []int{1, 2, 3, 9}, []int{4, -1, 2, 9}
	left, right := roomy(wasLeft), roomy(wasRight)
	for _, mode := range allModes {
		a, b, _ := impl.EncodeStereo(mode, left, right)
		x, y, ok := impl.DecodeStereo(mode, a, b)
		if !ok || !slices.Equal(x, left) || !slices.Equal(y, right) {
			t.Errorf("DecodeStereo = %v, %v, %v", x, y, ok)
		}
		wasA, wasB := slices.Clone(a), slices.Clone(b)
		ra, rb := roomy(a), roomy(b)
		x, y, _ = impl.DecodeStereo(mode, ra, rb)
		checkUntouched(t, ra, wasA, x)
		checkUntouched(t, rb, wasB, y)
		checkUntouched(t, left, wasLeft, a)
		checkUntouched(t, right, wasRight, b)
	}
	impl.BestStereo(left, right)
	checkUntouched(t, left, wasLeft, nil)
	checkUntouched(t, right, wasRight, nil)
	// One list for both channels still makes two results.
	a, b, _ := impl.EncodeStereo(impl.LeftRight, left, left)
	checkUntouched(t, left, wasLeft, a)
	if !slices.Equal(b, wasLeft) {
		t.Errorf("the second list became %v", b)
	}
	a, b, _ = impl.DecodeStereo(impl.LeftRight, left, left)
	checkUntouched(t, left, wasLeft, a)
	if !slices.Equal(b, wasLeft) {
		t.Errorf("the second channel became %v", b)
	}
}

func TestP44MiddlesAndDifferencesRestoreChannels(t *testing.T) {
	r := rand.New(rand.NewSource(44))
	for range 1000 {
		left, right := someChannels(r, r.Intn(impl.MaxBlock+1))
		mid, side := impl.MidSide(left, right)
		if x, y, ok := impl.FromMidSide(mid, side); !ok || !slices.Equal(x, left) || !slices.Equal(y, right) {
			t.Errorf("FromMidSide of MidSide(%v, %v) = %v, %v, %v", left, right, x, y, ok)
		}
	}
}

func TestP45ExchangedChannelsHaveTheSameMiddle(t *testing.T) {
	r := rand.New(rand.NewSource(45))
	for range 1000 {
		left, right := someChannels(r, r.Intn(impl.MaxBlock+1))
		mid, side := impl.MidSide(left, right)
		mid2, side2 := impl.MidSide(right, left)
		if len(mid) != len(left) || len(side) != len(left) || !slices.Equal(mid2, mid) || !slices.Equal(side2, negated(side)) {
			t.Errorf("MidSide(%v, %v) = %v, %v, exchanged %v, %v", left, right, mid, side, mid2, side2)
		}
	}
}

func TestP46ChannelsHaveAMiddleAndADifference(t *testing.T) {
	r := rand.New(rand.NewSource(46))
	restored := 0
	for range 1000 {
		count, size := r.Intn(impl.MaxBlock+1), 1+r.Intn(17000)
		mid, side := smallNumbers(r, count, size), smallNumbers(r, count, 2*size)
		left, right, ok := impl.FromMidSide(mid, side)
		if !ok {
			continue
		}
		restored++
		if x, y := impl.MidSide(left, right); !slices.Equal(x, mid) || !slices.Equal(y, side) {
			t.Errorf("MidSide of FromMidSide(%v, %v) = %v, %v", mid, side, x, y)
		}
	}
	if restored < 500 {
		t.Errorf("only %d pairs of channels were restored", restored)
	}
}

func TestP47EveryModeRestoresTheChannels(t *testing.T) {
	r := rand.New(rand.NewSource(47))
	for range 1000 {
		left, right := someChannels(r, r.Intn(impl.MaxBlock+1))
		for _, mode := range allModes {
			a, b, ok := impl.EncodeStereo(mode, left, right)
			x, y, ok2 := impl.DecodeStereo(mode, a, b)
			if !ok || !ok2 || !slices.Equal(x, left) || !slices.Equal(y, right) {
				t.Errorf("DecodeStereo of EncodeStereo(%d, %v, %v) = %v, %v", mode, left, right, x, y)
			}
		}
	}
}

func TestP48ChannelsAreStoredAsTheyWereRead(t *testing.T) {
	r := rand.New(rand.NewSource(48))
	restored := map[int]int{}
	for range 1000 {
		count, size := r.Intn(impl.MaxBlock+1), 1+r.Intn(33000)
		a, b := smallNumbers(r, count, size), smallNumbers(r, count, size)
		for _, mode := range allModes {
			left, right, ok := impl.DecodeStereo(mode, a, b)
			if !ok {
				continue
			}
			restored[mode]++
			if x, y, ok := impl.EncodeStereo(mode, left, right); !ok || !slices.Equal(x, a) || !slices.Equal(y, b) {
				t.Errorf("EncodeStereo of DecodeStereo(%d, %v, %v) = %v, %v", mode, a, b, x, y)
			}
		}
	}
	for _, mode := range allModes {
		if restored[mode] < 300 {
			t.Errorf("only %d pairs of channels were restored with mode %d", restored[mode], mode)
		}
	}
}

func TestP49NoModeChangesLess(t *testing.T) {
	r := rand.New(rand.NewSource(49))
	for range 1000 {
		left, right := someChannels(r, r.Intn(impl.MaxBlock+1))
		best := impl.BestStereo(left, right)
		a, b, ok := impl.EncodeStereo(best, left, right)
		least := changesOf(a) + changesOf(b)
		for _, mode := range allModes {
			if a, b, _ := impl.EncodeStereo(mode, left, right); !ok || changesOf(a)+changesOf(b) < least {
				t.Errorf("BestStereo(%v, %v) = %d instead of %d", left, right, best, mode)
			}
		}
		if got := impl.BestStereo(left, left); got != impl.LeftRight && got != impl.LeftSide {
			t.Errorf("BestStereo of %v twice = %d", left, got)
		}
	}
}

func TestP134ExchangedChannelsExchangeModes(t *testing.T) {
	r := rand.New(rand.NewSource(134))
	for range 1000 {
		left, right := someChannels(r, r.Intn(impl.MaxBlock+1))
		a, b, ok := impl.EncodeStereo(impl.SideRight, right, left)
		x, y, ok2 := impl.EncodeStereo(impl.LeftSide, left, right)
		if !ok || !ok2 || !slices.Equal(a, negated(y)) || !slices.Equal(b, left) || !slices.Equal(x, left) {
			t.Errorf("EncodeStereo of %v and %v = %v, %v, exchanged %v, %v", left, right, x, y, a, b)
		}
	}
}
