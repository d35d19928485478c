package tests

import (
	"math"
	"math/rand"
	"slices"
	"testing"

	"loop.example/losslessaudio/impl"
)

// sameChannels reports whether channels are the same; nil and empty slices are.
func sameChannels(a [][]int, b [][]int) bool {
	return slices.EqualFunc(a, b, slices.Equal[[]int])
}

// slowTurns returns the samples of channels in turn by taking one of each channel as long as there are some.
func slowTurns(channels [][]int) []int {
	list := []int{}
	for i := range channels[0] {
		for _, channel := range channels {
			list = append(list, channel[i])
		}
	}
	return list
}

// slowWide returns audio with a greater depth by doubling.
func slowWide(a impl.Audio, depth int) impl.Audio {
	b := cloneAudio(a)
	for b.Depth < depth {
		b.Depth++
		for _, list := range b.Channels {
			for i := range list {
				list[i] += list[i]
			}
		}
	}
	return b
}

// slowNarrow returns audio with the smallest depth by halving as long as nothing is lost.
func slowNarrow(a impl.Audio) impl.Audio {
	b := cloneAudio(a)
	for b.Depth > 4 && !slices.ContainsFunc(slices.Concat(b.Channels...), func(n int) bool { return n%2 != 0 }) {
		b.Depth--
		for _, list := range b.Channels {
			for i := range list {
				list[i] /= 2
			}
		}
	}
	return b
}

// someEven returns audio whose depth can often shrink; it is the same in every run.
func someEven(r *rand.Rand, most int) impl.Audio {
	a := someAudioOf(r, r.Intn(most+1))
	shift := r.Intn(a.Depth)
	for _, list := range a.Channels {
		for i := range list {
			list[i] = list[i] >> shift << shift
		}
	}
	return a
}

// someRow returns one or two channels of any numbers that are the same in every run.
func someRow(r *rand.Rand, most int) [][]int {
	channels, count := make([][]int, 1+r.Intn(2)), r.Intn(most+1)
	for c := range channels {
		channels[c] = smallNumbers(r, count, 1<<r.Intn(40))
	}
	return channels
}

// numbersFrom returns count numbers that grow by a step.
func numbersFrom(first int, step int, count int) []int {
	list := []int{}
	for i := range count {
		list = append(list, first+i*step)
	}
	return list
}

// checkTurns fails if the samples of channels in turn are not the wanted ones, or are not the samples of these channels.
func checkTurns(t *testing.T, channels [][]int, want []int) {
	t.Helper()
	if got := impl.Interleave(channels); !slices.Equal(got, want) {
		t.Errorf("Interleave(%v) = %v instead of %v", channels, got, want)
	}
	if got, ok := impl.Deinterleave(want, len(channels)); !ok || !sameChannels(got, channels) {
		t.Errorf("Deinterleave(%v, %d) = %v, %v instead of %v", want, len(channels), got, ok, channels)
	}
}

// checkNoTurns fails if channels have samples in turn.
func checkNoTurns(t *testing.T, what string, channels [][]int) {
	t.Helper()
	if got := impl.Interleave(channels); len(got) > 0 {
		t.Errorf("Interleave of %s, %v, = %v", what, channels, got)
	}
}

// checkNoChannels fails if a list is divided into channels.
func checkNoChannels(t *testing.T, what string, list []int, n int) {
	t.Helper()
	if got, ok := impl.Deinterleave(list, n); ok || len(got) > 0 {
		t.Errorf("Deinterleave of %s, %v, %d = %v, %v", what, list, n, got, ok)
	}
}

// checkWide fails if audio with a greater depth is not the wanted one.
func checkWide(t *testing.T, a impl.Audio, depth int, want impl.Audio) {
	t.Helper()
	if got, ok := impl.WidenAudio(a, depth); !ok || !sameAudio(got, want) {
		t.Errorf("WidenAudio(%v, %d) = %v, %v instead of %v", a, depth, got, ok, want)
	}
}

// checkNoWide fails if audio gets another depth.
func checkNoWide(t *testing.T, what string, a impl.Audio, depth int) {
	t.Helper()
	if got, ok := impl.WidenAudio(a, depth); ok || !sameAudio(got, impl.Audio{}) {
		t.Errorf("WidenAudio of %s, %v, %d = %v, %v", what, a, depth, got, ok)
	}
}

// checkNarrow fails if audio with the smallest depth is not the wanted one.
func checkNarrow(t *testing.T, what string, a impl.Audio, want impl.Audio) {
	t.Helper()
	if got := impl.NarrowAudio(a); !sameAudio(got, want) {
		t.Errorf("NarrowAudio of %s, %v, = %v instead of %v", what, a, got, want)
	}
}

func TestInterleaveExamples(t *testing.T) {
	for _, c := range []struct {
		channels [][]int
		want     []int
	}{
		{[][]int{{1, 2}, {3, 4}}, []int{1, 3, 2, 4}}, {[][]int{{3, 4}, {1, 2}}, []int{3, 1, 4, 2}}, {[][]int{{1, 2, 3}, {4, 5, 6}}, []int{1, 4, 2, 5, 3, 6}},
		{[][]int{{1}, {2}}, []int{1, 2}}, {[][]int{{1}}, []int{1}}, {[][]int{{1, 2, 3}}, []int{1, 2, 3}}, {[][]int{{-1, 2, 0, 7}}, []int{-1, 2, 0, 7}},
		{[][]int{nil}, nil}, {[][]int{{}}, nil}, {[][]int{nil, nil}, nil}, {[][]int{{}, nil}, nil},
		// Samples in turn may be any numbers.
		{[][]int{{math.MinInt, math.MaxInt}, {65536, -65537}}, []int{math.MinInt, 65536, math.MaxInt, -65537}},
		{[][]int{{math.MaxInt}}, []int{math.MaxInt}}, {[][]int{farNumbers}, farNumbers},
	} {
		checkTurns(t, c.channels, c.want)
	}
}

func TestInterleaveUpToMaxTotal(t *testing.T) {
	for _, count := range []int{255, 256} {
		left, right := numbersFrom(0, 1, count), numbersFrom(-7, -3, count)
		checkTurns(t, [][]int{left}, left)
		checkTurns(t, [][]int{left, right}, slowTurns([][]int{left, right}))
		checkTurns(t, [][]int{left, left}, slowTurns([][]int{left, left}))
	}
	for _, count := range []int{257, 258, 511, 512, 1000} {
		long := numbersFrom(1, 1, count)
		checkNoTurns(t, "one long channel", [][]int{long})
		checkNoTurns(t, "two long channels", [][]int{long, long})
		checkNoTurns(t, "a long channel", [][]int{long, long[:256]})
		checkNoTurns(t, "a long second channel", [][]int{long[:256], long})
		checkNoChannels(t, "a long channel", long, 1)
	}
	for _, count := range []int{513, 514, 515, 516, 1000} {
		checkNoChannels(t, "two long channels", numbersFrom(1, 1, count), 2)
	}
}

func TestLayoutsOfOtherChannels(t *testing.T) {
	one := []int{1, 2, 3}
	for name, channels := range map[string][][]int{
		"nothing": nil, "no channels": {}, "three channels": {one, one, one}, "three empty channels": make([][]int, 3), "four channels": {one, one, one, one},
		"a shorter second channel": {one, one[:2]}, "a longer second channel": {one[:2], one}, "an empty second channel": {one, nil}, "an empty first channel": {{}, one},
		"a third channel that is empty": {one, one, nil}, "many channels": make([][]int, 1000),
	} {
		checkNoTurns(t, name, channels)
	}
	for count := range 9 {
		list := numbersFrom(5, 1, count)
		for _, n := range append([]int{-2, -1, 0, 3, 4, count + 3}, farNumbers...) {
			checkNoChannels(t, "some numbers", list, n)
		}
		if count%2 == 1 {
			checkNoChannels(t, "an odd number", list, 2)
		}
	}
	checkNoChannels(t, "an odd number", make([]int, 255), 2)
	checkNoChannels(t, "an odd number", make([]int, 511), 2)
	checkNoChannels(t, "512 numbers", make([]int, 512), 3)
}

func TestLayoutsFollowTheirDefinition(t *testing.T) {
	r := rand.New(rand.NewSource(1))
	for range 300 {
		channels := someRow(r, []int{5, 256}[r.Intn(2)])
		checkTurns(t, channels, slowTurns(channels))
	}
}

func TestWidenAudioExamples(t *testing.T) {
	for _, c := range []struct {
		a    impl.Audio
		want impl.Audio
	}{
		{audioOf(8, []int{1, -2}), audioOf(12, []int{16, -32})}, {audioOf(8, []int{1, -2}), audioOf(8, []int{1, -2})}, {audioOf(8, []int{1, -2}), audioOf(9, []int{2, -4})}, {audioOf(8, []int{1, -2}), audioOf(16, []int{256, -512})},
		{audioOf(4, []int{-8, 7, 0}), audioOf(16, []int{-32768, 28672, 0})}, {audioOf(16, []int{-32768, 32767}), audioOf(16, []int{-32768, 32767})}, {audioOf(15, []int{-16384, 16383}), audioOf(16, []int{-32768, 32766})},
		{audioOf(4, []int{1}, []int{-3}), audioOf(5, []int{2}, []int{-6})}, {audioOf(4, nil), audioOf(16, nil)}, {audioOf(4, nil, []int{}), audioOf(4, nil, nil)},
		{impl.Audio{Rate: impl.MaxRate, Depth: 5, Channels: [][]int{{15, -16}}}, impl.Audio{Rate: impl.MaxRate, Depth: 7, Channels: [][]int{{60, -64}}}},
	} {
		checkWide(t, c.a, c.want.Depth, c.want)
	}
}

func TestWidenAudioFollowsItsDefinition(t *testing.T) {
	r := rand.New(rand.NewSource(2))
	audios := loudAudios()
	for range 50 {
		audios = append(audios, someAudioOf(r, r.Intn(20)))
	}
	for _, a := range audios {
		for depth := -1; depth <= 20; depth++ {
			if depth < a.Depth || depth > 16 {
				checkNoWide(t, "audio", a, depth)
				continue
			}
			checkWide(t, a, depth, slowWide(a, depth))
		}
		for _, depth := range append([]int{32, 63, 64, 65, a.Depth + 64}, farNumbers...) {
			checkNoWide(t, "audio", a, depth)
		}
	}
}

func TestNarrowAudioExamples(t *testing.T) {
	for _, c := range [][2]impl.Audio{
		{audioOf(12, []int{16, -32}), audioOf(8, []int{1, -2})}, {audioOf(8, []int{64, -64}), audioOf(4, []int{4, -4})}, {audioOf(8, []int{16, -32}), audioOf(4, []int{1, -2})}, {audioOf(8, []int{8, -32}), audioOf(5, []int{1, -4})},
		{audioOf(8, []int{1, 64}), audioOf(8, []int{1, 64})}, {audioOf(8, []int{64, -1}), audioOf(8, []int{64, -1})}, {audioOf(8, []int{-128, 127}), audioOf(8, []int{-128, 127})}, {audioOf(8, []int{2, 126}), audioOf(7, []int{1, 63})}, {audioOf(8, []int{-6, 6}), audioOf(7, []int{-3, 3})},
		// Zeros need no depth, but there is a smallest one.
		{audioOf(16, []int{0}), audioOf(4, []int{0})}, {audioOf(8, make([]int, 256)), audioOf(4, make([]int, 256))}, {audioOf(16, nil), audioOf(4, nil)}, {audioOf(5, []int{0, 0}, []int{0, 0}), audioOf(4, []int{0, 0}, []int{0, 0})}, {audioOf(9, nil, nil), audioOf(4, nil, nil)},
		{audioOf(4, []int{0}), audioOf(4, []int{0})}, {audioOf(4, []int{-8, 4}), audioOf(4, []int{-8, 4})}, {audioOf(4, []int{1}), audioOf(4, []int{1})}, {audioOf(5, []int{-16}), audioOf(4, []int{-8})}, {audioOf(5, []int{8}), audioOf(4, []int{4})}, {audioOf(5, []int{7}), audioOf(5, []int{7})},
		{audioOf(16, []int{-32768}), audioOf(4, []int{-8})}, {audioOf(16, []int{-32768, 16384}), audioOf(4, []int{-8, 4})}, {audioOf(16, []int{-32768, 4096}), audioOf(4, []int{-8, 1})}, {audioOf(16, []int{-32768, 2048}), audioOf(5, []int{-16, 1})}, {audioOf(16, []int{-32768, 32767}), audioOf(16, []int{-32768, 32767})},
		// All channels have the same depth.
		{audioOf(8, []int{16, 0}, []int{0, 8}), audioOf(5, []int{2, 0}, []int{0, 1})}, {audioOf(8, []int{4, 0}, []int{16, 0}), audioOf(6, []int{1, 0}, []int{4, 0})}, {audioOf(8, []int{16}, []int{1}), audioOf(8, []int{16}, []int{1})}, {audioOf(8, []int{1}, []int{16}), audioOf(8, []int{1}, []int{16})}, {audioOf(8, []int{0}, []int{-2}), audioOf(7, []int{0}, []int{-1})},
		{{Rate: impl.MaxRate, Depth: 6, Channels: [][]int{{12}}}, {Rate: impl.MaxRate, Depth: 4, Channels: [][]int{{3}}}},
	} {
		checkNarrow(t, "an example", c[0], c[1])
		if want := slowNarrow(c[0]); !sameAudio(want, c[1]) {
			t.Errorf("the example %v should be %v", c[0], want)
		}
	}
}

func TestNarrowAudioFollowsItsDefinition(t *testing.T) {
	r := rand.New(rand.NewSource(3))
	same, some, least := 0, 0, 0
	for _, a := range loudAudios() {
		checkNarrow(t, "loud audio", a, slowNarrow(a))
	}
	for range 500 {
		a := someEven(r, []int{3, 30, 256}[r.Intn(3)])
		want := slowNarrow(a)
		checkNarrow(t, "audio", a, want)
		switch {
		case want.Depth == 4:
			least++
		case want.Depth == a.Depth:
			same++
		default:
			some++
		}
	}
	if same < 30 || some < 100 || least < 100 {
		t.Errorf("the depth stays the same %d times, shrinks %d times, and becomes the smallest one %d times", same, some, least)
	}
}

func TestDepthsOfInvalidAudio(t *testing.T) {
	for name, a := range invalidAudios() {
		checkNarrow(t, name, a, impl.Audio{})
		for _, depth := range []int{-1, 0, 3, 4, 8, 15, 16, 17, a.Depth} {
			checkNoWide(t, name, a, depth)
		}
	}
}

func TestLayoutsTouchNothing(t *testing.T) {
	left, right, list := roomy([]int{8, 16, -24}), roomy([]int{64, 0, -128}), roomy([]int{8, 64, 16, 0, -24, -128})
	first, second, turns := []int{8, 16, -24}, []int{64, 0, -128}, []int{8, 64, 16, 0, -24, -128}
	channels := [][]int{left, right}
	wide := func(depth int) [][]int {
		a, _ := impl.WidenAudio(audioOf(8, channels...), depth)
		return a.Channels
	}
	taken := func(n int) [][]int {
		got, _ := impl.Deinterleave(list, n)
		return got
	}
	for _, c := range []struct {
		got  [][]int
		want [][]int
	}{
		{[][]int{impl.Interleave(channels[:1])}, [][]int{first}},
		{[][]int{impl.Interleave(channels)}, [][]int{turns}},
		{taken(1), [][]int{turns}},
		{taken(2), [][]int{first, second}},
		{wide(8), [][]int{first, second}},
		{wide(9), [][]int{{16, 32, -48}, {128, 0, -256}}},
		{impl.NarrowAudio(audioOf(9, channels...)).Channels, [][]int{{1, 2, -3}, {8, 0, -16}}},
		{impl.NarrowAudio(audioOf(8, list)).Channels, [][]int{{1, 8, 2, 0, -3, -16}}},
		{impl.NarrowAudio(audioOf(8, channels[1], make([]int, 3))).Channels, [][]int{{4, 0, -8}, {0, 0, 0}}},
		{impl.NarrowAudio(audioOf(8, append(roomy([]int{1}), 2))).Channels, [][]int{{1, 2}}},
	} {
		if len(c.got) != len(c.want) {
			t.Errorf("there are the channels %v instead of %v", c.got, c.want)
			continue
		}
		for i := range c.got {
			if !slices.Equal(c.got[i], c.want[i]) {
				t.Errorf("the channel %v should be %v", c.got[i], c.want[i])
			}
			checkUntouched(t, left, first, c.got[i])
			checkUntouched(t, right, second, nil)
			checkUntouched(t, list, turns, nil)
		}
		// The list of channels is new, too.
		c.got[0] = nil
	}
	if !sameChannels(channels, [][]int{first, second}) {
		t.Errorf("the channels became %v", channels)
	}
	// Audio whose depth stays the same is new, too.
	odd := roomy([]int{1, 2})
	checkUntouched(t, odd, []int{1, 2}, impl.NarrowAudio(audioOf(8, odd)).Channels[0])
	checkUntouched(t, odd, []int{1, 2}, impl.NarrowAudio(audioOf(4, []int{4, 0}, odd)).Channels[1])
}

func TestP103ChannelsInTurnCanBeSeparated(t *testing.T) {
	r := rand.New(rand.NewSource(103))
	for range 300 {
		channels := someAudioOf(r, r.Intn(impl.MaxTotal+1)).Channels
		if got, ok := impl.Deinterleave(impl.Interleave(channels), len(channels)); !ok || !sameChannels(got, channels) {
			t.Errorf("Deinterleave of Interleave(%v) = %v, %v", channels, got, ok)
		}
	}
}

func TestP104SeparatedChannelsCanBePutTogether(t *testing.T) {
	r := rand.New(rand.NewSource(104))
	for n := 1; n <= 2; n++ {
		for count := 0; count <= impl.MaxTotal; count++ {
			list := smallNumbers(r, n*count, 1<<r.Intn(40))
			channels, ok := impl.Deinterleave(list, n)
			if !ok || len(channels) != n {
				t.Errorf("Deinterleave(%v, %d) = %v, %v", list, n, channels, ok)
			}
			if got := impl.Interleave(channels); !slices.Equal(got, list) {
				t.Errorf("Interleave(%v) = %v instead of %v", channels, got, list)
			}
		}
	}
}

func TestP105MoreDepthCanBeTakenAway(t *testing.T) {
	r := rand.New(rand.NewSource(105))
	for range 200 {
		a := someEven(r, 40)
		want := impl.NarrowAudio(a)
		for depth := a.Depth; depth <= impl.MaxDepth; depth++ {
			b, ok := impl.WidenAudio(a, depth)
			if !ok || b.Depth != depth || !impl.ValidAudio(b) {
				t.Errorf("WidenAudio(%v, %d) = %v, %v", a, depth, b, ok)
			}
			checkNarrow(t, "audio with more depth", b, want)
		}
	}
}

func TestP106DepthsGrowStepByStep(t *testing.T) {
	r := rand.New(rand.NewSource(106))
	for range 100 {
		a := someEven(r, 30)
		for depth := a.Depth; depth <= impl.MaxDepth; depth++ {
			b, ok := impl.WidenAudio(a, depth)
			if !ok {
				t.Errorf("WidenAudio(%v, %d) fails", a, depth)
			}
			for more := depth; more <= impl.MaxDepth; more++ {
				want, ok := impl.WidenAudio(a, more)
				if !ok {
					t.Errorf("WidenAudio(%v, %d) fails", a, more)
				}
				checkWide(t, b, more, want)
			}
		}
	}
}

func TestP107NarrowAudioIsTheSame(t *testing.T) {
	r := rand.New(rand.NewSource(107))
	audios := loudAudios()
	for range 300 {
		audios = append(audios, someEven(r, 60))
	}
	for _, a := range audios {
		b := impl.NarrowAudio(a)
		if !impl.ValidAudio(b) || b.Depth > a.Depth {
			t.Errorf("NarrowAudio(%v) = %v", a, b)
		}
		checkWide(t, b, a.Depth, a)
		checkNarrow(t, "narrow audio", b, b)
	}
}

func TestP151NothingIsLeftOut(t *testing.T) {
	r := rand.New(rand.NewSource(151))
	for range 300 {
		channels := someRow(r, impl.MaxTotal)
		list, count := impl.Interleave(channels), len(channels[0])
		if len(list) != count*len(channels) {
			t.Errorf("Interleave(%v) has %d numbers", channels, len(list))
			continue
		}
		for c := range channels {
			if count > 0 && list[c] != channels[c][0] {
				t.Errorf("Interleave(%v) begins with %v", channels, list[:len(channels)])
			}
		}
	}
}
