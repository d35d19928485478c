package tests

import (
	"math/rand"
	"slices"
	"testing"

	"loop.example/losslessaudio/impl"
)

// slowCut returns a part of audio sample by sample.
func slowCut(a impl.Audio, from int, to int) impl.Audio {
	b := impl.Audio{Rate: a.Rate, Depth: a.Depth, Channels: make([][]int, len(a.Channels))}
	for i := from; i < to; i++ {
		for c := range a.Channels {
			b.Channels[c] = append(b.Channels[c], a.Channels[c][i])
		}
	}
	return b
}

// slowFade returns faded audio by its definition.
func slowFade(a impl.Audio, steps int) impl.Audio {
	b := cloneAudio(a)
	for _, list := range b.Channels {
		for i := range list {
			if i < steps {
				list[i] = slowRounded(list[i]*i, steps)
			}
		}
	}
	return b
}

// someSplit returns valid audio and an index of it that is often at one of its ends; both are the same in every run.
func someSplit(r *rand.Rand, most int) (impl.Audio, int) {
	a := someLevels(r, most)
	total := len(a.Channels[0])
	return a, []int{0, total, r.Intn(total + 1), r.Intn(total + 1), r.Intn(total + 1)}[r.Intn(5)]
}

// somePair returns two audios that can be joined; both are the same in every run.
func somePair(r *rand.Rand, most int) (impl.Audio, impl.Audio) {
	a, at := someSplit(r, most)
	b := slowCut(a, at, len(a.Channels[0]))
	if r.Intn(2) == 0 {
		// The second part alone is the loudest one.
		for _, list := range b.Channels {
			for i := range list {
				list[i] = -1 << (a.Depth - 1)
			}
		}
	}
	return slowCut(a, 0, at), b
}

// checkCut fails if a part of audio is not the wanted one.
func checkCut(t *testing.T, a impl.Audio, from int, to int, want impl.Audio) {
	t.Helper()
	if got, ok := impl.CutAudio(a, from, to); !ok || !sameAudio(got, want) {
		t.Errorf("CutAudio(%v, %d, %d) = %v, %v instead of %v", a, from, to, got, ok, want)
	}
}

// checkNoCut fails if audio is cut.
func checkNoCut(t *testing.T, what string, a impl.Audio, from int, to int) {
	t.Helper()
	if got, ok := impl.CutAudio(a, from, to); ok || !sameAudio(got, impl.Audio{}) {
		t.Errorf("CutAudio of %s, %v, %d, %d = %v, %v", what, a, from, to, got, ok)
	}
}

// checkJoin fails if joined audio is not the wanted one.
func checkJoin(t *testing.T, a impl.Audio, b impl.Audio, want impl.Audio) {
	t.Helper()
	if got, ok := impl.JoinAudio(a, b); !ok || !sameAudio(got, want) {
		t.Errorf("JoinAudio(%v, %v) = %v, %v instead of %v", a, b, got, ok, want)
	}
}

// checkNoJoin fails if audio is joined in one of both orders.
func checkNoJoin(t *testing.T, what string, a impl.Audio, b impl.Audio) {
	t.Helper()
	for range 2 {
		if got, ok := impl.JoinAudio(a, b); ok || !sameAudio(got, impl.Audio{}) {
			t.Errorf("JoinAudio of %s, %v, %v = %v, %v", what, a, b, got, ok)
		}
		a, b = b, a
	}
}

// checkFade fails if faded audio is not the wanted one.
func checkFade(t *testing.T, a impl.Audio, steps int, want impl.Audio) {
	t.Helper()
	if got, ok := impl.FadeAudio(a, steps); !ok || !sameAudio(got, want) {
		t.Errorf("FadeAudio(%v, %d) = %v, %v instead of %v", a, steps, got, ok, want)
	}
}

// checkNoFade fails if audio is faded.
func checkNoFade(t *testing.T, what string, a impl.Audio, steps int) {
	t.Helper()
	if got, ok := impl.FadeAudio(a, steps); ok || !sameAudio(got, impl.Audio{}) {
		t.Errorf("FadeAudio of %s, %v, %d = %v, %v", what, a, steps, got, ok)
	}
}

// checkReverse fails if audio in reverse order is not the wanted one.
func checkReverse(t *testing.T, what string, a impl.Audio, want impl.Audio) {
	t.Helper()
	if got := impl.ReverseAudio(a); !sameAudio(got, want) {
		t.Errorf("ReverseAudio of %s, %v, = %v instead of %v", what, a, got, want)
	}
}

func TestCutAudioExamples(t *testing.T) {
	one := audioOf(8, []int{10, 20, 30, 40})
	two := impl.Audio{Rate: impl.MaxRate, Depth: 16, Channels: [][]int{{1, -2, 3, -32768}, {5, 6, 32767, 8}}}
	for _, c := range []struct {
		from int
		to   int
		one  []int
		left []int
		last []int
	}{
		{0, 0, nil, nil, nil}, {1, 1, nil, nil, nil}, {3, 3, nil, nil, nil}, {4, 4, nil, nil, nil},
		{0, 4, []int{10, 20, 30, 40}, []int{1, -2, 3, -32768}, []int{5, 6, 32767, 8}},
		{0, 1, []int{10}, []int{1}, []int{5}}, {3, 4, []int{40}, []int{-32768}, []int{8}}, {1, 3, []int{20, 30}, []int{-2, 3}, []int{6, 32767}},
		{0, 3, []int{10, 20, 30}, []int{1, -2, 3}, []int{5, 6, 32767}}, {1, 4, []int{20, 30, 40}, []int{-2, 3, -32768}, []int{6, 32767, 8}},
	} {
		checkCut(t, one, c.from, c.to, audioOf(8, c.one))
		checkCut(t, two, c.from, c.to, impl.Audio{Rate: impl.MaxRate, Depth: 16, Channels: [][]int{c.left, c.last}})
	}
	for _, c := range [][2]int{{-1, 0}, {-1, 2}, {-1, 4}, {0, -1}, {-1, -1}, {-2, -1}, {0, 5}, {1, 5}, {4, 5}, {5, 5}, {5, 6}, {5, 4}, {1, 0}, {2, 1}, {4, 3}, {4, 0}} {
		checkNoCut(t, "one channel", one, c[0], c[1])
		checkNoCut(t, "two channels", two, c[0], c[1])
	}
	for _, n := range farNumbers {
		for _, m := range append([]int{-1, 0, 2, 4, 5}, farNumbers...) {
			checkNoCut(t, "one channel", one, n, m)
			checkNoCut(t, "two channels", two, m, n)
		}
	}
}

func TestCutAudioFollowsItsDefinition(t *testing.T) {
	r := rand.New(rand.NewSource(1))
	audios := loudAudios()
	for range 30 {
		audios = append(audios, someLevels(r, 12))
	}
	for _, a := range audios {
		total := len(a.Channels[0])
		places := []int{-1, 0, 1, 2, total - 1, total, total + 1, impl.MaxTotal, impl.MaxTotal + 1}
		if total < 20 {
			places = nil
			for n := -2; n <= total+2; n++ {
				places = append(places, n)
			}
		}
		for _, from := range places {
			for _, to := range places {
				if from < 0 || to > total || from > to {
					checkNoCut(t, "audio", a, from, to)
					continue
				}
				checkCut(t, a, from, to, slowCut(a, from, to))
			}
		}
	}
}

func TestJoinAudioExamples(t *testing.T) {
	stereo := impl.Audio{Rate: 44100, Depth: 16, Channels: [][]int{{1, -2}, {32767, -32768}}}
	for _, c := range [][3]impl.Audio{
		{audioOf(8, []int{1, 2}), audioOf(8, []int{3}), audioOf(8, []int{1, 2, 3})},
		{audioOf(8, []int{3}), audioOf(8, []int{1, 2}), audioOf(8, []int{3, 1, 2})},
		{audioOf(8, []int{127}), audioOf(8, []int{-128}), audioOf(8, []int{127, -128})},
		{audioOf(4, nil), audioOf(4, []int{7, -8}), audioOf(4, []int{7, -8})},
		{audioOf(4, []int{7, -8}), audioOf(4, []int{}), audioOf(4, []int{7, -8})},
		{audioOf(8, nil), audioOf(8, nil), audioOf(8, nil)},
		{audioOf(8, nil, nil), audioOf(8, []int{}, nil), audioOf(8, nil, nil)},
		{audioOf(8, nil, nil), audioOf(8, []int{1}, []int{2}), audioOf(8, []int{1}, []int{2})},
		{audioOf(8, []int{1}, []int{2}), audioOf(8, []int{3, 4}, []int{5, 6}), audioOf(8, []int{1, 3, 4}, []int{2, 5, 6})},
		{stereo, stereo, {Rate: 44100, Depth: 16, Channels: [][]int{{1, -2, 1, -2}, {32767, -32768, 32767, -32768}}}},
	} {
		checkJoin(t, c[0], c[1], c[2])
	}
}

func TestJoinAudioUpToMaxTotal(t *testing.T) {
	r := rand.New(rand.NewSource(2))
	for channels := 1; channels <= 2; channels++ {
		long := func(total int) impl.Audio {
			a := audioOf(16)
			for range channels {
				a.Channels = append(a.Channels, someLine(r, total, 16))
			}
			return a
		}
		for _, size := range []int{0, 1, 2, 127, 128, 129, 255, 256} {
			a, b := long(size), long(256-size)
			want := long(0)
			for c := range want.Channels {
				want.Channels[c] = slices.Concat(a.Channels[c], b.Channels[c])
			}
			checkJoin(t, a, b, want)
			checkNoJoin(t, "one sample too many", a, long(257-size))
			checkNoJoin(t, "two samples too many", long(min(size+1, 256)), long(min(257-size, 256)))
		}
		checkNoJoin(t, "long audio", long(256), long(256))
	}
}

func TestJoinAudioOfDifferentForms(t *testing.T) {
	a := audioOf(8, []int{1, 2})
	two := audioOf(8, []int{1, 2}, []int{3, 4})
	for name, b := range map[string]impl.Audio{
		"a greater rate":            {Rate: 8001, Depth: 8, Channels: [][]int{{1}}},
		"a smaller rate":            {Rate: 7999, Depth: 8, Channels: [][]int{{1}}},
		"another rate":              {Rate: 1, Depth: 8, Channels: [][]int{{1, 2}}},
		"a greater depth":           audioOf(9, []int{1}),
		"a smaller depth":           audioOf(7, []int{1}),
		"no samples, another rate":  {Rate: 8001, Depth: 8, Channels: [][]int{nil}},
		"no samples, another depth": audioOf(16, nil),
	} {
		checkNoJoin(t, name, a, b)
		b.Channels = append(b.Channels, b.Channels[0])
		checkNoJoin(t, name+" of two channels", two, b)
		checkNoJoin(t, name+" and more channels", a, b)
	}
	checkNoJoin(t, "more channels", a, two)
	checkNoJoin(t, "more channels without samples", a, audioOf(8, nil, nil))
	checkNoJoin(t, "less channels without samples", two, audioOf(8, nil))
	checkNoJoin(t, "no samples and more channels", audioOf(8, nil), audioOf(8, nil, nil))
}

func TestFadeAudioExamples(t *testing.T) {
	for _, c := range []struct {
		depth int
		list  []int
		steps int
		want  []int
	}{
		{8, []int{8, 8, 8, 8}, 4, []int{0, 2, 4, 6}},
		{8, []int{8, 8, 8, 8}, 3, []int{0, 3, 5, 8}},
		{8, []int{8, 8, 8, 8}, 2, []int{0, 4, 8, 8}},
		{8, []int{8, 8, 8, 8}, 1, []int{0, 8, 8, 8}},
		{8, []int{8, 8, 8, 8}, 0, []int{8, 8, 8, 8}},
		{8, []int{-8, -8, -8, -8}, 3, []int{0, -3, -5, -8}},
		// Halves are rounded up, also those below 0.
		{8, []int{1, 1, 1}, 2, []int{0, 1, 1}}, {8, []int{-1, -1, -1}, 2, []int{0, 0, -1}},
		{8, []int{3, 3, 3}, 2, []int{0, 2, 3}}, {8, []int{-3, -3, -3}, 2, []int{0, -1, -3}},
		{8, []int{2, 2, 2, 2}, 4, []int{0, 1, 1, 2}}, {8, []int{-2, -2, -2, -2}, 4, []int{0, 0, -1, -1}},
		{8, []int{1, 1, 1}, 3, []int{0, 0, 1}}, {8, []int{-1, -1, -1}, 3, []int{0, 0, -1}},
		{8, []int{5, -5, 5, -5, 5}, 5, []int{0, -1, 2, -3, 4}},
		{8, []int{7, 7, -7, 7, -7, -7}, 6, []int{0, 1, -2, 4, -5, -6}},
		{4, []int{-8, -8, -8, -8, -8}, 5, []int{0, -2, -3, -5, -6}}, {4, []int{-8, -8}, 1, []int{0, -8}},
		{16, []int{-32768, -32768, -32768}, 2, []int{0, -16384, -32768}}, {16, []int{32767, 32767, 32767}, 2, []int{0, 16384, 32767}},
		{16, []int{-32768, -32768, -32768, 32767}, 3, []int{0, -10923, -21845, 32767}},
		{8, []int{100}, 1, []int{0}}, {8, []int{100}, 0, []int{100}}, {8, []int{0, 0}, 2, []int{0, 0}}, {8, nil, 0, nil},
	} {
		a, zero := audioOf(c.depth, c.list), make([]int, len(c.list))
		checkFade(t, a, c.steps, audioOf(c.depth, c.want))
		checkFade(t, audioOf(c.depth, zero, c.list), c.steps, audioOf(c.depth, zero, c.want))
		checkFade(t, audioOf(c.depth, c.list, zero), c.steps, audioOf(c.depth, c.want, zero))
		checkFade(t, a, len(c.list), slowFade(a, len(c.list)))
		for _, steps := range append([]int{-1, -2, len(c.list) + 1, 256, 257}, farNumbers...) {
			checkNoFade(t, "an example", a, steps)
		}
	}
	long := audioOf(16, slices.Repeat([]int{-32768}, 256), slices.Repeat([]int{32767}, 256))
	for _, steps := range []int{0, 1, 2, 127, 128, 255, 256} {
		checkFade(t, long, steps, slowFade(long, steps))
	}
	checkNoFade(t, "long audio", long, 257)
}

func TestFadeAudioFollowsItsDefinition(t *testing.T) {
	r := rand.New(rand.NewSource(3))
	audios := loudAudios()
	for range 200 {
		audios = append(audios, someLevels(r, 30))
	}
	for range 10 {
		audios = append(audios, someLevels(r, 256))
	}
	changed := 0
	for _, a := range audios {
		total := len(a.Channels[0])
		for _, steps := range []int{0, 1, total - 1, total, r.Intn(total + 1), r.Intn(total + 1), total + 1, -1} {
			if steps < 0 || steps > total {
				checkNoFade(t, "audio", a, steps)
				continue
			}
			want := slowFade(a, steps)
			if !sameAudio(want, a) {
				changed++
			}
			checkFade(t, a, steps, want)
		}
	}
	if changed < 500 {
		t.Errorf("only %d fades change a sample", changed)
	}
}

func TestReverseAudioExamples(t *testing.T) {
	for _, c := range [][2]impl.Audio{
		{audioOf(8, nil), audioOf(8, nil)}, {audioOf(4, nil, []int{}), audioOf(4, nil, nil)}, {audioOf(8, []int{5}), audioOf(8, []int{5})},
		{audioOf(8, []int{1, 2}), audioOf(8, []int{2, 1})}, {audioOf(8, []int{1, 2, 3}), audioOf(8, []int{3, 2, 1})},
		{audioOf(8, []int{1, 2, 3, 4}, []int{-128, 6, 7, 127}), audioOf(8, []int{4, 3, 2, 1}, []int{127, 7, 6, -128})},
		{{Rate: impl.MaxRate, Depth: 16, Channels: [][]int{{-32768, 32767}}}, {Rate: impl.MaxRate, Depth: 16, Channels: [][]int{{32767, -32768}}}},
		{audioOf(8, append(make([]int, 255), 1)), audioOf(8, append([]int{1}, make([]int, 255)...))},
	} {
		checkReverse(t, "an example", c[0], c[1])
		checkReverse(t, "an example", c[1], c[0])
	}
	for _, a := range loudAudios() {
		checkReverse(t, "loud audio", a, backward(a))
	}
}

func TestEditsOfInvalidAudio(t *testing.T) {
	for name, a := range invalidAudios() {
		for _, n := range []int{-1, 0, 1, 2, 3, impl.MaxTotal, impl.MaxTotal + 1} {
			checkNoCut(t, name, a, 0, n)
			checkNoCut(t, name, a, n, n)
			checkNoFade(t, name, a, n)
		}
		checkReverse(t, name, a, impl.Audio{})
		checkNoJoin(t, name, a, a)
		for channels := 1; channels <= 3; channels++ {
			// Audio of the same form that adds nothing, and some that is valid.
			checkNoJoin(t, name, a, impl.Audio{Rate: a.Rate, Depth: a.Depth, Channels: make([][]int, channels)})
			checkNoJoin(t, name, a, impl.Audio{Rate: 8000, Depth: 8, Channels: make([][]int, channels)})
			checkNoJoin(t, name, a, impl.Audio{Rate: 1, Depth: 16, Channels: slices.Repeat([][]int{{0}}, channels)})
		}
		checkNoJoin(t, name, a, impl.Audio{})
	}
}

func TestEditsTouchNothing(t *testing.T) {
	for name, edit := range map[string]func(a impl.Audio) (impl.Audio, bool){
		"CutAudio of everything": func(a impl.Audio) (impl.Audio, bool) { return impl.CutAudio(a, 0, 4) },
		"CutAudio":               func(a impl.Audio) (impl.Audio, bool) { return impl.CutAudio(a, 1, 3) },
		"CutAudio of nothing":    func(a impl.Audio) (impl.Audio, bool) { return impl.CutAudio(a, 4, 4) },
		"JoinAudio with itself":  func(a impl.Audio) (impl.Audio, bool) { return impl.JoinAudio(a, a) },
		"JoinAudio":              func(a impl.Audio) (impl.Audio, bool) { return impl.JoinAudio(a, audioOf(8, nil, nil)) },
		"JoinAudio behind":       func(a impl.Audio) (impl.Audio, bool) { return impl.JoinAudio(audioOf(8, nil, nil), a) },
		"FadeAudio":              func(a impl.Audio) (impl.Audio, bool) { return impl.FadeAudio(a, 3) },
		"FadeAudio of nothing":   func(a impl.Audio) (impl.Audio, bool) { return impl.FadeAudio(a, 0) },
		"ReverseAudio":           func(a impl.Audio) (impl.Audio, bool) { return impl.ReverseAudio(a), true },
	} {
		a := audioOf(8, roomy([]int{1, 20, -3, 40}), roomy([]int{100, 2, -128, 7}))
		was := cloneAudio(a)
		got, ok := edit(a)
		want, _ := edit(was)
		if !ok || len(got.Channels) != 2 {
			t.Errorf("%s = %v, %v", name, got, ok)
			continue
		}
		checkUntouched(t, a.Channels[0], was.Channels[0], got.Channels[0])
		if !slices.Equal(got.Channels[1], want.Channels[1]) {
			t.Errorf("%s: the channels share memory", name)
		}
		checkUntouched(t, a.Channels[1], was.Channels[1], got.Channels[1])
		got.Channels[0] = nil
		if !sameAudio(a, was) {
			t.Errorf("%s: the audio became %v", name, a)
		}
	}
	// The same list may be both channels, and both parts.
	list := roomy([]int{1, 2, 3})
	a := audioOf(8, list, list)
	checkReverse(t, "one list for both channels", a, audioOf(8, []int{3, 2, 1}, []int{3, 2, 1}))
	checkJoin(t, a, a, audioOf(8, []int{1, 2, 3, 1, 2, 3}, []int{1, 2, 3, 1, 2, 3}))
	checkFade(t, a, 3, audioOf(8, []int{0, 1, 2}, []int{0, 1, 2}))
	checkUntouched(t, list, []int{1, 2, 3}, nil)
}

func TestP93CutsCanBeJoined(t *testing.T) {
	r := rand.New(rand.NewSource(93))
	for range 300 {
		a, at := someSplit(r, 256)
		first, ok := impl.CutAudio(a, 0, at)
		second, fine := impl.CutAudio(a, at, len(a.Channels[0]))
		if !ok || !fine || len(first.Channels[0]) != at || !impl.ValidAudio(first) || !impl.ValidAudio(second) {
			t.Errorf("CutAudio of %v at %d = %v and %v", a, at, first, second)
		}
		checkJoin(t, first, second, a)
	}
}

func TestP94JoinedAudioHasBothParts(t *testing.T) {
	r := rand.New(rand.NewSource(94))
	for range 300 {
		a, b := somePair(r, 256)
		whole, ok := impl.JoinAudio(a, b)
		if !ok || !impl.ValidAudio(whole) {
			t.Fatalf("JoinAudio(%v, %v) = %v, %v", a, b, whole, ok)
		}
		end := len(a.Channels[0])
		checkCut(t, whole, 0, end, a)
		checkCut(t, whole, end, len(whole.Channels[0]), b)
	}
}

func TestP95FadesBeginAtZero(t *testing.T) {
	r := rand.New(rand.NewSource(95))
	for range 500 {
		a := someLevels(r, 60)
		total := len(a.Channels[0])
		if total == 0 {
			continue
		}
		steps := 1 + r.Intn(total)
		b, ok := impl.FadeAudio(a, steps)
		if !ok || !impl.ValidAudio(b) {
			t.Fatalf("FadeAudio(%v, %d) = %v, %v", a, steps, b, ok)
		}
		for c, list := range b.Channels {
			if list[0] != 0 || !slices.Equal(list[steps:], a.Channels[c][steps:]) {
				t.Errorf("FadeAudio(%v, %d) = %v", a, steps, b)
			}
			for i, n := range list {
				if max(n, -n) > max(a.Channels[c][i], -a.Channels[c][i]) {
					t.Errorf("FadeAudio(%v, %d) = %v is louder at %d", a, steps, b, i)
				}
			}
		}
	}
}

func TestP96ReversingTwiceChangesNothing(t *testing.T) {
	r := rand.New(rand.NewSource(96))
	turned := 0
	for range 300 {
		a := someLevels(r, 100)
		b := impl.ReverseAudio(a)
		if !sameAudio(a, b) {
			turned++
		}
		checkReverse(t, "audio in reverse order", b, a)
		checkPeak(t, "audio in reverse order", b, impl.PeakOf(a))
	}
	if turned < 200 {
		t.Errorf("only %d audios are different in reverse order", turned)
	}
}

func TestP97ReversingTurnsTheOrderAround(t *testing.T) {
	r := rand.New(rand.NewSource(97))
	for range 300 {
		a, b := somePair(r, 256)
		whole, ok := impl.JoinAudio(a, b)
		if !ok {
			t.Fatalf("JoinAudio(%v, %v) fails", a, b)
		}
		checkJoin(t, impl.ReverseAudio(b), impl.ReverseAudio(a), impl.ReverseAudio(whole))
	}
}

func TestP148CutsOfCutsAreCuts(t *testing.T) {
	r := rand.New(rand.NewSource(148))
	for range 300 {
		a, from := someSplit(r, 100)
		to := from + r.Intn(len(a.Channels[0])-from+1)
		part, ok := impl.CutAudio(a, from, to)
		if !ok {
			t.Fatalf("CutAudio(%v, %d, %d) fails", a, from, to)
		}
		for range 10 {
			more := r.Intn(to - from + 1)
			end := more + r.Intn(to-from-more+1)
			want, ok := impl.CutAudio(a, from+more, from+end)
			if !ok {
				t.Errorf("CutAudio(%v, %d, %d) fails", a, from+more, from+end)
			}
			checkCut(t, part, more, end, want)
		}
	}
}

func TestP149NoFadeChangesNothing(t *testing.T) {
	r := rand.New(rand.NewSource(149))
	for range 300 {
		a := someLevels(r, 100)
		checkFade(t, a, 0, a)
		if len(a.Channels[0]) == 0 {
			continue
		}
		b, ok := impl.FadeAudio(a, 1)
		for c := range a.Channels {
			if !ok || b.Channels[c][0] != 0 || !slices.Equal(b.Channels[c][1:], a.Channels[c][1:]) {
				t.Errorf("FadeAudio(%v, 1) = %v, %v", a, b, ok)
			}
		}
	}
}

func TestP159JoinedAudioHasTheGreaterPeak(t *testing.T) {
	r := rand.New(rand.NewSource(159))
	first, second := 0, 0
	for range 500 {
		a, b := somePair(r, 60)
		whole, ok := impl.JoinAudio(a, b)
		if !ok {
			t.Fatalf("JoinAudio(%v, %v) fails", a, b)
		}
		one, two := impl.PeakOf(a), impl.PeakOf(b)
		checkPeak(t, "joined audio", whole, max(one, two))
		if one > two {
			first++
		}
		if two > one {
			second++
		}
	}
	if first < 100 || second < 100 {
		t.Errorf("the first part is louder %d times, and the second one %d times", first, second)
	}
}
