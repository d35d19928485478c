package tests

import (
	"math"
	"math/rand"
	"slices"
	"testing"

	"loop.example/losslessaudio/impl"
)

// slowRounded returns a number divided by a positive one and rounded by looking for the nearest one, the greater one of two.
func slowRounded(n int, den int) int {
	near := n/den - 2
	for math.Abs(float64((near+1)*den-n)) <= math.Abs(float64(near*den-n)) {
		near++
	}
	return near
}

// slowScale returns scaled audio by its definition.
func slowScale(a impl.Audio, num int, den int) (impl.Audio, int) {
	b, limited := cloneAudio(a), 0
	low, top := -(1 << (a.Depth - 1)), 1<<(a.Depth-1)-1
	for _, list := range b.Channels {
		for i, n := range list {
			list[i] = slowRounded(n*num, den)
			if list[i] < low {
				list[i], limited = low, limited+1
			}
			if list[i] > top {
				list[i], limited = top, limited+1
			}
		}
	}
	return b, limited
}

// slowGain returns the greatest factor that limits nothing by trying all from the smallest one on.
func slowGain(a impl.Audio, den int) int {
	best := 0
	for num := 1; num <= 64; num++ {
		if _, limited := slowScale(a, num, den); limited == 0 {
			best = num
		}
	}
	return best
}

// slowPeak returns the greatest absolute value of all samples.
func slowPeak(a impl.Audio) int {
	peak := 0
	for _, n := range slices.Concat(a.Channels...) {
		if n > peak {
			peak = n
		}
		if -n > peak {
			peak = -n
		}
	}
	return peak
}

// slowLoudness returns the greatest mean of all windows by looking at each of them alone.
func slowLoudness(a impl.Audio, window int) int {
	greatest := 0
	for _, list := range a.Channels {
		for from := 0; from+window <= len(list); from++ {
			sum := 0
			for _, n := range list[from : from+window] {
				sum += n * n
			}
			greatest = max(greatest, sum/window)
		}
	}
	return greatest
}

// audioOf returns audio of a depth with some channels.
func audioOf(depth int, channels ...[]int) impl.Audio {
	return impl.Audio{Rate: 8000, Depth: depth, Channels: channels}
}

// someLevels returns valid audio that is the same in every run, often with the smallest and the greatest sample of its depth.
func someLevels(r *rand.Rand, most int) impl.Audio {
	a := someAudioOf(r, r.Intn(most+1))
	if r.Intn(3) == 0 {
		// Quieter audio can be scaled without limits.
		shift := 1 + r.Intn(4)
		for _, list := range a.Channels {
			for i := range list {
				list[i] >>= shift
			}
		}
	}
	for _, list := range a.Channels {
		if len(list) > 0 && r.Intn(6) == 0 {
			list[r.Intn(len(list))] = []int{-1 << (a.Depth - 1), 1<<(a.Depth-1) - 1}[r.Intn(2)]
		}
	}
	return a
}

// backward returns audio in reverse order.
func backward(a impl.Audio) impl.Audio {
	b := cloneAudio(a)
	for _, list := range b.Channels {
		slices.Reverse(list)
	}
	return b
}

// checkPeak fails if the peak is not the wanted one.
func checkPeak(t *testing.T, what string, a impl.Audio, want int) {
	t.Helper()
	if got := impl.PeakOf(a); got != want {
		t.Errorf("PeakOf of %s, %v, = %d instead of %d", what, a, got, want)
	}
}

// checkLoudness fails if the loudness is not the wanted one.
func checkLoudness(t *testing.T, what string, a impl.Audio, window int, want int) {
	t.Helper()
	if got := impl.LoudnessOf(a, window); got != want {
		t.Errorf("LoudnessOf of %s, %v, %d = %d instead of %d", what, a, window, got, want)
	}
}

// checkScale fails if scaled audio is not the wanted one.
func checkScale(t *testing.T, a impl.Audio, num int, den int, want impl.Audio, limited int) {
	t.Helper()
	if got, n, ok := impl.ScaleAudio(a, num, den); !ok || n != limited || !sameAudio(got, want) {
		t.Errorf("ScaleAudio(%v, %d, %d) = %v, %d, %v instead of %v, %d", a, num, den, got, n, ok, want, limited)
	}
}

// checkNoScale fails if audio is scaled.
func checkNoScale(t *testing.T, what string, a impl.Audio, num int, den int) {
	t.Helper()
	if got, n, ok := impl.ScaleAudio(a, num, den); ok || n != 0 || !sameAudio(got, impl.Audio{}) {
		t.Errorf("ScaleAudio of %s, %v, %d, %d = %v, %d, %v", what, a, num, den, got, n, ok)
	}
}

// checkGain fails if the greatest factor is not the wanted one.
func checkGain(t *testing.T, what string, a impl.Audio, den int, want int) {
	t.Helper()
	if got := impl.GainFor(a, den); got != want {
		t.Errorf("GainFor of %s, %v, %d = %d instead of %d", what, a, den, got, want)
	}
}

// outOfGain are numbers that samples are neither multiplied nor divided by.
func outOfGain() []int {
	return append([]int{-64, -1, 0, impl.MaxGain + 1, 128, 256}, farNumbers...)
}

func TestLimitsOfLevels(t *testing.T) {
	if impl.MaxGain != 64 {
		t.Error("a limit is wrong")
	}
}

func TestPeakOfExamples(t *testing.T) {
	for _, c := range []struct {
		a    impl.Audio
		want int
	}{
		{audioOf(8, nil), 0}, {audioOf(8, nil, nil), 0}, {audioOf(8, []int{}), 0}, {audioOf(8, []int{0}), 0}, {audioOf(8, []int{0}, []int{0}), 0},
		{audioOf(8, []int{1}), 1}, {audioOf(8, []int{-1}), 1}, {audioOf(8, []int{3, -5, 2}), 5}, {audioOf(8, []int{3, -5, 6}), 6}, {audioOf(8, []int{-7, -5, 6}), 7},
		{audioOf(8, []int{1, 2}, []int{3, 4}), 4}, {audioOf(8, []int{3, 4}, []int{-1, -2}), 4}, {audioOf(8, []int{3, 4}, []int{-5, -2}), 5},
		{audioOf(4, []int{-8}), 8}, {audioOf(4, []int{7}), 7}, {audioOf(16, []int{32767}), 32767}, {audioOf(16, []int{32767}, []int{-32768}), 32768},
		{audioOf(16, append(make([]int, 255), -32768)), 32768}, {audioOf(16, make([]int, 256), append(make([]int, 255), 1)), 1},
	} {
		checkPeak(t, "an example", c.a, c.want)
	}
	for _, a := range loudAudios() {
		checkPeak(t, "loud audio", a, slowPeak(a))
	}
	for name, a := range invalidAudios() {
		checkPeak(t, name, a, -1)
	}
}

func TestLoudnessOfExamples(t *testing.T) {
	for _, c := range []struct {
		a      impl.Audio
		window int
		want   int
	}{
		{audioOf(8, nil), 1, 0}, {audioOf(8, nil, nil), 256, 0}, {audioOf(8, []int{3}), 1, 9}, {audioOf(8, []int{-3}), 1, 9}, {audioOf(8, []int{3}), 2, 0}, {audioOf(8, []int{3}), 256, 0},
		{audioOf(8, []int{3, -5, 2}), 1, 25}, {audioOf(8, []int{3, -5, 2}), 2, 17}, {audioOf(8, []int{3, -5, 2}), 3, 12}, {audioOf(8, []int{3, -5, 2}), 4, 0},
		{audioOf(8, []int{5, 0, 0, 4}), 1, 25}, {audioOf(8, []int{5, 0, 0, 4}), 2, 12}, {audioOf(8, []int{5, 0, 0, 4}), 3, 8}, {audioOf(8, []int{5, 0, 0, 4}), 4, 10}, {audioOf(8, []int{4, 0, 0, 5}), 2, 12},
		{audioOf(8, []int{1, 1, 0}), 3, 0}, {audioOf(8, []int{1, 1, 1}), 3, 1}, {audioOf(8, []int{1, 0, 0, 0, 0, 0, 1, 1}), 2, 1}, {audioOf(8, []int{1, 1, 0, 0}), 2, 1},
		{audioOf(8, []int{1, 2}, []int{3, 4}), 2, 12}, {audioOf(8, []int{3, 4}, []int{-1, -2}), 2, 12}, {audioOf(8, []int{3, 4}, []int{-1, -2}), 3, 0},
		// A window has samples of one channel.
		{audioOf(8, []int{0, 10}, []int{10, 0}), 2, 50}, {audioOf(8, []int{10, 0, 0}, []int{0, 0, 10}), 3, 33},
		{audioOf(16, slices.Repeat([]int{-32768}, 256)), 256, 1 << 30}, {audioOf(16, slices.Repeat([]int{-32768}, 256)), 1, 1 << 30}, {audioOf(16, slices.Repeat([]int{-32768}, 255)), 256, 0},
		{audioOf(4, []int{-8, 7}), 2, 56}, {audioOf(4, []int{-8, 7}), 1, 64}, {audioOf(16, append(make([]int, 255), 16)), 256, 1}, {audioOf(16, append(make([]int, 255), 15)), 256, 0},
	} {
		checkLoudness(t, "an example", c.a, c.window, c.want)
	}
	for _, a := range loudAudios() {
		for _, window := range []int{1, 2, 3, 4, 5, 6, 255, 256} {
			checkLoudness(t, "loud audio", a, window, slowLoudness(a, window))
		}
	}
}

func TestLoudnessOfInvalidArguments(t *testing.T) {
	for name, a := range invalidAudios() {
		for _, window := range append([]int{-1, 0, 1, 2, impl.MaxTotal, impl.MaxTotal + 1}, farNumbers...) {
			checkLoudness(t, name, a, window, -1)
		}
	}
	for _, a := range loudAudios() {
		for _, window := range append([]int{-256, -1, 0, impl.MaxTotal + 1, 512}, farNumbers...) {
			checkLoudness(t, "valid audio", a, window, -1)
		}
	}
}

func TestLevelsFollowTheirDefinition(t *testing.T) {
	r := rand.New(rand.NewSource(1))
	for range 200 {
		a := someLevels(r, []int{8, 40, 256}[r.Intn(3)])
		checkPeak(t, "audio", a, slowPeak(a))
		total := len(a.Channels[0])
		for _, window := range []int{1, 2, 3, 7, max(1, total-1), max(1, total), min(256, total+1), 1 + r.Intn(256), 1 + r.Intn(total+1)} {
			window = min(window, 256)
			checkLoudness(t, "audio", a, window, slowLoudness(a, window))
		}
	}
}

func TestScaleAudioExamples(t *testing.T) {
	eight := []int{-4, -3, -2, -1, 0, 1, 2, 3, 4}
	for _, c := range []struct {
		list    []int
		num     int
		den     int
		want    []int
		limited int
	}{
		{eight, 1, 1, eight, 0},
		{eight, 64, 64, eight, 0},
		// Halves are rounded up, also those below 0.
		{eight, 1, 2, []int{-2, -1, -1, 0, 0, 1, 1, 2, 2}, 0},
		{eight, 2, 4, []int{-2, -1, -1, 0, 0, 1, 1, 2, 2}, 0},
		{eight, 3, 2, []int{-6, -4, -3, -1, 0, 2, 3, 5, 6}, 0},
		{eight, 1, 3, []int{-1, -1, -1, 0, 0, 0, 1, 1, 1}, 0},
		{eight, 2, 3, []int{-3, -2, -1, -1, 0, 1, 1, 2, 3}, 0},
		{eight, 1, 4, []int{-1, -1, 0, 0, 0, 0, 1, 1, 1}, 0},
		{eight, 3, 4, []int{-3, -2, -1, -1, 0, 1, 2, 2, 3}, 0},
		{eight, 1, 8, []int{0, 0, 0, 0, 0, 0, 0, 0, 1}, 0},
		{eight, 1, 64, make([]int, 9), 0},
		{eight, 2, 1, []int{-8, -6, -4, -2, 0, 2, 4, 6, 8}, 0},
		{eight, 32, 1, []int{-128, -96, -64, -32, 0, 32, 64, 96, 127}, 1},
		{eight, 33, 1, []int{-128, -99, -66, -33, 0, 33, 66, 99, 127}, 2},
		{eight, 64, 1, []int{-128, -128, -128, -64, 0, 64, 127, 127, 127}, 5},
		{eight, 64, 2, []int{-128, -96, -64, -32, 0, 32, 64, 96, 127}, 1},
		{[]int{127, -128, 127, -128}, 1, 1, []int{127, -128, 127, -128}, 0},
		{[]int{127, -128, 126, -127}, 64, 63, []int{127, -128, 127, -128}, 4},
		{[]int{31, -31, 32, -32}, 64, 63, []int{31, -31, 33, -33}, 0},
		{[]int{127, -128}, 1, 64, []int{2, -2}, 0},
		{[]int{32, -32, 31, -31, 96, -96}, 1, 64, []int{1, 0, 0, 0, 2, -1}, 0},
		// 127.5 is rounded to 128, which is one too much.
		{[]int{85}, 3, 2, []int{127}, 1},
		{[]int{51, -51}, 5, 2, []int{127, -127}, 1},
		{[]int{-86, -85}, 3, 2, []int{-128, -127}, 1},
		{[]int{-103}, 5, 4, []int{-128}, 1},
		{[]int{-51, -52, 52}, 5, 2, []int{-127, -128, 127}, 2},
		{[]int{-103, 103}, 10, 8, []int{-128, 127}, 2},
		{[]int{-57, -56}, 9, 4, []int{-128, -126}, 0},
		{nil, 64, 1, nil, 0},
	} {
		checkScale(t, audioOf(8, c.list), c.num, c.den, audioOf(8, c.want), c.limited)
		zero := make([]int, len(c.list))
		checkScale(t, audioOf(8, zero, c.list), c.num, c.den, audioOf(8, zero, c.want), c.limited)
		checkScale(t, audioOf(8, c.list, c.list), c.num, c.den, audioOf(8, c.want, c.want), 2*c.limited)
	}
	// 7.5 is limited, but -8.5 is rounded to -8.
	checkScale(t, audioOf(4, []int{5, -5}), 3, 2, audioOf(4, []int{7, -7}), 1)
	checkScale(t, audioOf(4, []int{-8, 7}), 17, 16, audioOf(4, []int{-8, 7}), 0)
	checkScale(t, audioOf(4, []int{-8, 7}), 16, 15, audioOf(4, []int{-8, 7}), 1)
	checkScale(t, audioOf(4, []int{-8, -5, 5, 7}), 17, 10, audioOf(4, []int{-8, -8, 7, 7}), 3)
	checkScale(t, audioOf(16, []int{-32768, 32767}), 64, 1, audioOf(16, []int{-32768, 32767}), 2)
	checkScale(t, audioOf(16, []int{-32768, 32767}), 1, 64, audioOf(16, []int{-512, 512}), 0)
	checkScale(t, audioOf(16, []int{-512, 512, 511}), 64, 1, audioOf(16, []int{-32768, 32767, 32704}), 1)
	checkScale(t, impl.Audio{Rate: impl.MaxRate, Depth: 16, Channels: [][]int{nil, {}}}, 3, 2, impl.Audio{Rate: impl.MaxRate, Depth: 16, Channels: make([][]int, 2)}, 0)
	long := slices.Repeat([]int{-8, 7}, 128)
	checkScale(t, audioOf(4, long, long), 2, 1, audioOf(4, long, long), 512)
}

func TestScaleAudioOfAllSamples(t *testing.T) {
	// All samples of 8 bits, in both channels one half of them.
	a := audioOf(8, nil, nil)
	for n := -128; n < 128; n += 2 {
		a.Channels[0], a.Channels[1] = append(a.Channels[0], n), append(a.Channels[1], n+1)
	}
	for num := 1; num <= 64; num++ {
		for den := 1; den <= 64; den++ {
			want, limited := slowScale(a, num, den)
			checkScale(t, a, num, den, want, limited)
		}
	}
}

func TestScaleAudioFollowsItsDefinition(t *testing.T) {
	r := rand.New(rand.NewSource(2))
	below, above, none := 0, 0, 0
	for range 1500 {
		a, num, den := someLevels(r, 30), 1+r.Intn(64), 1+r.Intn(64)
		want, limited := slowScale(a, num, den)
		checkScale(t, a, num, den, want, limited)
		if limited == 0 {
			none++
			continue
		}
		list := slices.Concat(want.Channels...)
		if slices.Min(list) == -1<<(a.Depth-1) {
			below++
		}
		if slices.Max(list) == 1<<(a.Depth-1)-1 {
			above++
		}
	}
	if below < 200 || above < 200 || none < 200 {
		t.Errorf("audio is limited %d times below, %d times above, and %d times not", below, above, none)
	}
}

func TestScaleAudioOfInvalidArguments(t *testing.T) {
	for name, a := range invalidAudios() {
		for _, n := range []int{0, 1, 2, impl.MaxGain} {
			checkNoScale(t, name, a, n, 1)
			checkNoScale(t, name, a, 1, n)
			checkNoScale(t, name, a, n, n)
		}
	}
	for _, a := range loudAudios() {
		for _, n := range outOfGain() {
			for _, m := range []int{1, 2, 64, n} {
				checkNoScale(t, "valid audio", a, n, m)
				checkNoScale(t, "valid audio", a, m, n)
			}
		}
		for _, c := range [][2]int{{1, 1}, {64, 64}, {1, 64}, {64, 1}} {
			want, limited := slowScale(a, c[0], c[1])
			checkScale(t, a, c[0], c[1], want, limited)
		}
	}
}

func TestGainForExamples(t *testing.T) {
	for _, c := range []struct {
		a    impl.Audio
		den  int
		want int
	}{
		{audioOf(8, nil), 1, 64}, {audioOf(8, nil, nil), 64, 64}, {audioOf(8, []int{0}), 1, 64}, {audioOf(8, []int{1}), 1, 64}, {audioOf(8, []int{-2}), 1, 64}, {audioOf(8, []int{2}), 1, 63}, {audioOf(8, []int{-3}), 1, 42},
		{audioOf(8, []int{3, -5, 2}), 1, 25}, {audioOf(8, []int{3, 5, 2}), 1, 25}, {audioOf(8, []int{4}), 1, 31}, {audioOf(8, []int{-4}), 1, 32}, {audioOf(8, []int{-4, 4}), 1, 31}, {audioOf(8, []int{100}), 1, 1},
		{audioOf(8, []int{4}), 2, 63}, {audioOf(8, []int{-4}), 2, 64}, {audioOf(8, []int{4}), 3, 64}, {audioOf(8, []int{-64}), 1, 2}, {audioOf(8, []int{64}), 1, 1}, {audioOf(8, []int{64}), 2, 3},
		{audioOf(8, []int{127}), 1, 1}, {audioOf(8, []int{-128}), 1, 1}, {audioOf(8, []int{127}), 64, 64}, {audioOf(8, []int{-128}), 64, 64}, {audioOf(8, []int{127}), 63, 63}, {audioOf(8, []int{-128}), 63, 63},
		// 127.5 would be rounded to 128, but -8.5 is rounded to -8.
		{audioOf(8, []int{51}), 2, 4}, {audioOf(8, []int{-51}), 2, 5}, {audioOf(4, []int{-8}), 16, 17}, {audioOf(4, []int{5}), 2, 2}, {audioOf(4, []int{-5}), 2, 3}, {audioOf(8, []int{-125}), 36, 37}, {audioOf(8, []int{125}), 36, 36},
		{audioOf(8, []int{1, 2}, []int{3, 100}), 1, 1}, {audioOf(8, []int{1, 100}, []int{3, 2}), 1, 1}, {audioOf(8, []int{1, 2}, []int{-10, 3}), 1, 12},
		{audioOf(4, []int{7, -8}), 1, 1}, {audioOf(4, []int{7, -8}), 15, 15}, {audioOf(4, []int{7, -8}), 16, 17}, {audioOf(4, []int{7}), 20, 21}, {audioOf(4, []int{-8}), 20, 21}, {audioOf(4, []int{3}), 2, 4}, {audioOf(4, []int{1}), 1, 7}, {audioOf(4, []int{-1}), 1, 8}, {audioOf(4, []int{1}), 8, 59},
		{audioOf(16, []int{-512}), 1, 64}, {audioOf(16, []int{512}), 1, 63}, {audioOf(16, []int{511}), 1, 64}, {audioOf(16, []int{-513}), 1, 63}, {audioOf(16, []int{-32768, 32767}), 1, 1}, {audioOf(16, []int{-32768, 32767}), 64, 64},
	} {
		checkGain(t, "an example", c.a, c.den, c.want)
		if want := slowGain(c.a, c.den); want != c.want {
			t.Errorf("the example %v, %d should be %d", c.a, c.den, want)
		}
	}
}

func TestGainForFollowsItsDefinition(t *testing.T) {
	r := rand.New(rand.NewSource(3))
	counts := make([]int, 65)
	for range 400 {
		a, den := someLevels(r, 10), 1+r.Intn(64)
		if r.Intn(2) == 0 {
			den = 1 + r.Intn(8)
		}
		want := slowGain(a, den)
		counts[want]++
		checkGain(t, "audio", a, den, want)
	}
	if counts[64] < 100 || counts[64] > 300 {
		t.Errorf("of 400 audios, as many have each greatest factor: %v", counts)
	}
	// A factor of 1 makes no sample louder, so that there is always one.
	for _, a := range loudAudios() {
		for den := 1; den <= 64; den++ {
			want := slowGain(a, den)
			checkGain(t, "loud audio", a, den, want)
			if want < 1 {
				t.Errorf("there is no factor for %v and %d", a, den)
			}
		}
	}
}

func TestGainForInvalidArguments(t *testing.T) {
	for name, a := range invalidAudios() {
		for _, den := range append([]int{1, 2, 64}, outOfGain()...) {
			checkGain(t, name, a, den, -1)
		}
	}
	for _, a := range loudAudios() {
		for _, den := range outOfGain() {
			checkGain(t, "valid audio", a, den, -1)
		}
	}
}

func TestLevelsTouchNothing(t *testing.T) {
	a := impl.Audio{Rate: 8000, Depth: 8, Channels: [][]int{roomy([]int{1, 20, -3}), roomy([]int{100, 2, -128})}}
	was := cloneAudio(a)
	if impl.PeakOf(a) != 128 || impl.LoudnessOf(a, 2) != (4+128*128)/2 || impl.GainFor(a, 2) != 2 {
		t.Error("a level is wrong")
	}
	for num := 1; num <= 3; num++ {
		got, _, ok := impl.ScaleAudio(a, num, 1)
		want, _ := slowScale(was, num, 1)
		if !ok || !sameAudio(got, want) {
			t.Fatalf("ScaleAudio(%v, %d, 1) = %v, %v", a, num, got, ok)
		}
		checkUntouched(t, a.Channels[0], was.Channels[0], got.Channels[0])
		if !slices.Equal(got.Channels[1], want.Channels[1]) {
			t.Errorf("the second channel became %v", got.Channels[1])
		}
		checkUntouched(t, a.Channels[1], was.Channels[1], got.Channels[1])
		got.Channels[0] = nil
	}
	if !sameAudio(a, was) {
		t.Errorf("the audio became %v", a)
	}
}

func TestP88PeaksAreReached(t *testing.T) {
	r := rand.New(rand.NewSource(88))
	for range 500 {
		a := someLevels(r, 60)
		peak, reached := impl.PeakOf(a), false
		for _, n := range slices.Concat(a.Channels...) {
			if n > peak || -n > peak {
				t.Errorf("PeakOf(%v) = %d, but there is %d", a, peak, n)
			}
			reached = reached || n == peak || -n == peak
		}
		if !reached && (peak != 0 || len(a.Channels[0]) > 0) {
			t.Errorf("PeakOf(%v) = %d is not reached", a, peak)
		}
	}
}

func TestP89LoudnessIsAtMostThePeak(t *testing.T) {
	r := rand.New(rand.NewSource(89))
	for range 300 {
		a := someLevels(r, 100)
		peak := impl.PeakOf(a)
		if got := impl.LoudnessOf(a, 1); got != peak*peak {
			t.Errorf("LoudnessOf(%v, 1) = %d, but the peak is %d", a, got, peak)
		}
		window := 1 + r.Intn(110)
		got := impl.LoudnessOf(a, window)
		if got < 0 || got > peak*peak {
			t.Errorf("LoudnessOf(%v, %d) = %d, but the peak is %d", a, window, got, peak)
		}
		checkLoudness(t, "audio in reverse order", impl.ReverseAudio(a), window, got)
	}
}

func TestP90ScalingByOneChangesNothing(t *testing.T) {
	r := rand.New(rand.NewSource(90))
	audios := loudAudios()
	for range 200 {
		audios = append(audios, someLevels(r, 40))
	}
	for _, a := range audios {
		for n := 1; n <= impl.MaxGain; n++ {
			checkScale(t, a, n, n, a, 0)
		}
		for range 10 {
			num, den := 1+r.Intn(64), 1+r.Intn(64)
			if b, _, ok := impl.ScaleAudio(a, num, den); !ok || !impl.ValidAudio(b) || b.Depth != a.Depth || b.Rate != a.Rate {
				t.Errorf("ScaleAudio(%v, %d, %d) = %v, %v", a, num, den, b, ok)
			}
		}
	}
}

func TestP91DoublingCanBeUndone(t *testing.T) {
	r := rand.New(rand.NewSource(91))
	undone, not := 0, 0
	for range 500 {
		a := someLevels(r, 40)
		for den := 1; den <= 32; den *= 2 {
			twice, limited, ok := impl.ScaleAudio(a, 2*den, den)
			if !ok {
				t.Errorf("ScaleAudio(%v, %d, %d) fails", a, 2*den, den)
			}
			if limited > 0 {
				not++
				continue
			}
			undone++
			checkScale(t, twice, den, 2*den, a, 0)
		}
	}
	if undone < 500 || not < 500 {
		t.Errorf("doubling is undone %d times, and limits samples %d times", undone, not)
	}
}

func TestP92TheGreatestGainLimitsNothing(t *testing.T) {
	r := rand.New(rand.NewSource(92))
	some, all := 0, 0
	for range 1000 {
		a, den := someLevels(r, 20), 1+r.Intn(64)
		if r.Intn(2) == 0 {
			den = 1 + r.Intn(8)
		}
		gain := impl.GainFor(a, den)
		if _, limited, ok := impl.ScaleAudio(a, gain, den); !ok || limited != 0 {
			t.Errorf("GainFor(%v, %d) = %d limits %d samples, %v", a, den, gain, limited, ok)
		}
		if gain == impl.MaxGain {
			all++
			continue
		}
		some++
		if _, limited, ok := impl.ScaleAudio(a, gain+1, den); !ok || limited == 0 {
			t.Errorf("GainFor(%v, %d) = %d is not the greatest one, %v", a, den, gain, ok)
		}
	}
	if some < 200 || all < 200 {
		t.Errorf("MaxGain is the greatest gain %d times, and less is %d times", all, some)
	}
}

func TestP145LongerWindowsAreNotLouder(t *testing.T) {
	r := rand.New(rand.NewSource(145))
	for range 100 {
		a := someLevels(r, []int{10, 256}[r.Intn(2)])
		for window := 1; 2*window <= impl.MaxTotal; window++ {
			if once, twice := impl.LoudnessOf(a, window), impl.LoudnessOf(a, 2*window); twice > once || twice < 0 {
				t.Errorf("LoudnessOf(%v) is %d for %d and %d for twice as many", a, once, window, twice)
			}
		}
	}
}

func TestP146ScalingKeepsTheOrder(t *testing.T) {
	r := rand.New(rand.NewSource(146))
	for range 300 {
		a, num, den := someLevels(r, 30), 1+r.Intn(64), 1+r.Intn(64)
		b, _, ok := impl.ScaleAudio(a, num, den)
		if !ok {
			t.Fatalf("ScaleAudio(%v, %d, %d) fails", a, num, den)
		}
		for c, list := range a.Channels {
			for i, n := range list {
				for j, m := range list {
					if n <= m && b.Channels[c][i] > b.Channels[c][j] {
						t.Errorf("ScaleAudio(%v, %d, %d) = %v", a, num, den, b)
					}
				}
			}
		}
	}
}

func TestP147GreaterDivisorsAllowMore(t *testing.T) {
	r := rand.New(rand.NewSource(147))
	audios := loudAudios()
	for range 60 {
		audios = append(audios, someLevels(r, 20))
	}
	for _, a := range audios {
		last := 0
		for den := 1; den <= impl.MaxGain; den++ {
			gain := impl.GainFor(a, den)
			if gain < last || gain > impl.MaxGain {
				t.Errorf("GainFor(%v, %d) = %d behind %d", a, den, gain, last)
			}
			last = gain
		}
	}
}

func TestP162SilenceStaysSilent(t *testing.T) {
	for depth := impl.MinWidth; depth <= impl.MaxDepth; depth++ {
		for _, total := range []int{0, 1, 2, impl.MaxTotal} {
			for _, a := range []impl.Audio{audioOf(depth, make([]int, total)), audioOf(depth, make([]int, total), make([]int, total))} {
				for _, n := range []int{1, 2, 3, 33, 63, impl.MaxGain} {
					checkGain(t, "silence", a, n, impl.MaxGain)
					for _, m := range []int{1, 2, 3, 32, 63, impl.MaxGain} {
						checkScale(t, a, n, m, a, 0)
					}
				}
			}
		}
	}
}
