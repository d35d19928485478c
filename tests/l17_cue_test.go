package tests

import (
	"math/rand"
	"slices"
	"testing"

	"loop.example/losslessaudio/impl"
)

// slowCue reports whether starts are valid by their definition.
func slowCue(starts []int, total int) bool {
	if total < 1 || total > 256 || len(starts) < 1 || len(starts) > 9 || starts[0] != 0 {
		return false
	}
	for i := range starts {
		if starts[i] >= total || i > 0 && starts[i-1] >= starts[i] {
			return false
		}
	}
	return true
}

// slowTrack returns the track of a sample by looking at all starts from the last one on.
func slowTrack(starts []int, total int, sample int) int {
	if !slowCue(starts, total) || sample < 0 || sample >= total {
		return -1
	}
	track := len(starts) - 1
	for starts[track] > sample {
		track--
	}
	return track
}

// slowRange returns the range of a track by its definition.
func slowRange(starts []int, total int, track int) (int, int) {
	if !slowCue(starts, total) || track < 0 || track >= len(starts) {
		return -1, -1
	}
	return starts[track], append(slices.Clone(starts[1:]), total)[track]
}

// someCue returns a number of samples and valid starts that are the same in every run.
func someCue(r *rand.Rand, most int) ([]int, int) {
	total := 1 + r.Intn(most)
	starts := append([]int{0}, r.Perm(total)[:r.Intn(min(total, impl.MaxTracks+1))]...)
	slices.Sort(starts)
	starts = slices.Compact(starts)
	return starts[:min(len(starts), impl.MaxTracks)], total
}

// someTracks returns valid audio with valid starts; both are the same in every run.
func someTracks(r *rand.Rand, most int) (impl.Audio, []int) {
	starts, total := someCue(r, most)
	return someAudioOf(r, total), starts
}

// everyStart returns the starts of tracks that all have as many samples.
func everyStart(step int, count int) []int {
	starts := []int{}
	for i := range count {
		starts = append(starts, i*step)
	}
	return starts
}

// invalidCues are all kinds of starts that are not valid for seven samples.
func invalidCues() map[string][]int {
	all := map[string][]int{
		"no start":                     nil,
		"an empty list":                {},
		"a first start of 1":           {1},
		"a first start of -1":          {-1},
		"a first start of 1 of three":  {1, 2, 5},
		"a first start of -1 of three": {-1, 2, 5},
		"a start as great as total":    {0, 2, 7},
		"a start that is greater":      {0, 8},
		"only a start at total":        {7},
		"equal starts":                 {0, 2, 2},
		"equal first starts":           {0, 0},
		"equal starts in the middle":   {0, 2, 2, 5},
		"starts that descend":          {0, 3, 2},
		"starts that descend below 0":  {0, -1},
		"a last start of 0":            {0, 1, 2, 0},
		"a start that is too great":    {0, 9, 5},
		"ten starts":                   everyStart(1, 10),
		"many zeros":                   make([]int, 1000),
	}
	for i, n := range farNumbers {
		name := string(rune('a' + i))
		all["a far first start "+name] = []int{n, 2}
		all["a far last start "+name] = []int{0, n}
		all["a far start in the middle "+name] = []int{0, n, 2}
	}
	return all
}

// checkCue fails if starts are not valid, or not invalid, or the tracks are not the wanted ones.
func checkCue(t *testing.T, starts []int, total int) {
	t.Helper()
	if got := impl.ValidCue(starts, total); got != slowCue(starts, total) {
		t.Errorf("ValidCue(%v, %d) = %v", starts, total, got)
	}
	for n := -2; n <= max(len(starts), min(total, 300))+2; n++ {
		if got, want := impl.TrackAt(starts, total, n), slowTrack(starts, total, n); got != want {
			t.Errorf("TrackAt(%v, %d, %d) = %d instead of %d", starts, total, n, got, want)
		}
		from, to := impl.TrackRange(starts, total, n)
		if a, b := slowRange(starts, total, n); from != a || to != b {
			t.Errorf("TrackRange(%v, %d, %d) = %d, %d instead of %d, %d", starts, total, n, from, to, a, b)
		}
	}
	for _, n := range farNumbers {
		checkNoTrack(t, starts, total, n)
	}
}

// checkNoTrack fails if there is a track of a sample, or with a number.
func checkNoTrack(t *testing.T, starts []int, total int, n int) {
	t.Helper()
	if got := impl.TrackAt(starts, total, n); got != -1 {
		t.Errorf("TrackAt(%v, %d, %d) = %d", starts, total, n, got)
	}
	if from, to := impl.TrackRange(starts, total, n); from != -1 || to != -1 {
		t.Errorf("TrackRange(%v, %d, %d) = %d, %d", starts, total, n, from, to)
	}
}

// checkSplit fails if the tracks of audio are not the wanted ones.
func checkSplit(t *testing.T, a impl.Audio, starts []int) {
	t.Helper()
	got := impl.SplitTracks(a, starts)
	if len(got) != len(starts) {
		t.Errorf("SplitTracks(%v, %v) = %v", a, starts, got)
		return
	}
	for i, part := range got {
		from, to := slowRange(starts, len(a.Channels[0]), i)
		if want := (impl.Audio{Rate: a.Rate, Depth: a.Depth, Channels: cutChannels(a, from, to-from)}); !sameAudio(part, want) {
			t.Errorf("track %d of SplitTracks(%v, %v) = %v instead of %v", i, a, starts, part, want)
		}
	}
}

// checkNoSplit fails if audio is divided.
func checkNoSplit(t *testing.T, what string, a impl.Audio, starts []int) {
	t.Helper()
	if got := impl.SplitTracks(a, starts); len(got) > 0 {
		t.Errorf("SplitTracks of %s, %v, %v = %v", what, a, starts, got)
	}
}

// joined returns the channels of several audios, one after the other.
func joined(parts []impl.Audio) [][]int {
	channels := make([][]int, len(parts[0].Channels))
	for _, part := range parts {
		for i, list := range part.Channels {
			channels[i] = append(channels[i], list...)
		}
	}
	return channels
}

func TestLimitsOfTracks(t *testing.T) {
	if impl.MaxTracks != 9 {
		t.Error("a limit is wrong")
	}
}

func TestValidCueExamples(t *testing.T) {
	for _, c := range []struct {
		starts []int
		total  int
		want   bool
	}{
		{[]int{0}, 1, true}, {[]int{0}, 2, true}, {[]int{0}, impl.MaxTotal, true}, {[]int{0}, impl.MaxTotal + 1, false}, {[]int{0}, 0, false}, {[]int{0}, -1, false},
		{nil, 0, false}, {nil, 1, false}, {[]int{}, impl.MaxTotal, false}, {[]int{1}, 2, false}, {[]int{-1}, 2, false},
		{[]int{0, 1}, 2, true}, {[]int{0, 1}, 1, false}, {[]int{0, 2}, 2, false}, {[]int{0, 1, 2}, 3, true}, {[]int{0, 1, 2}, 2, false}, {[]int{0, 0}, 3, false}, {[]int{0, 1, 1}, 3, false}, {[]int{0, 2, 1}, 3, false},
		{[]int{0, 255}, 256, true}, {[]int{0, 256}, 256, false}, {[]int{0, 255}, 255, false}, {[]int{0, 255}, 257, false}, {[]int{0, 256}, 257, false},
		{everyStart(1, 9), 9, true}, {everyStart(1, 9), 8, false}, {everyStart(1, 9), 256, true}, {everyStart(1, 10), 10, false}, {everyStart(1, 10), 256, false}, {everyStart(28, 9), 225, true}, {everyStart(28, 9), 224, false},
		{[]int{0, 1, 2, 3, 4, 5, 6, 7, 255}, 256, true}, {[]int{0, 1, 2, 3, 4, 5, 6, 7, 7}, 256, false}, {[]int{1, 2, 3, 4, 5, 6, 7, 8, 9}, 256, false},
	} {
		if got := impl.ValidCue(c.starts, c.total); got != c.want {
			t.Errorf("ValidCue(%v, %d) = %v", c.starts, c.total, got)
		}
		checkCue(t, c.starts, c.total)
	}
	for name, starts := range invalidCues() {
		if impl.ValidCue(starts, 7) {
			t.Errorf("%s is valid", name)
		}
		checkCue(t, starts, 7)
	}
}

func TestCuesOfFarNumbersOfSamples(t *testing.T) {
	for _, total := range append([]int{-7, -1, 0, impl.MaxTotal + 1, 1000}, farNumbers...) {
		for _, starts := range [][]int{nil, {0}, {0, 2, 5}, {-1}, {0, 256}, {-8}} {
			if impl.ValidCue(starts, total) {
				t.Errorf("ValidCue(%v, %d) is true", starts, total)
			}
			for _, n := range append([]int{-1, 0, 1, 2, 3, 255, total - 1, total}, farNumbers...) {
				checkNoTrack(t, starts, total, n)
			}
		}
	}
}

func TestTrackExamples(t *testing.T) {
	starts := []int{0, 1, 4}
	for sample, want := range []int{0, 1, 1, 1, 2, 2, 2} {
		if got := impl.TrackAt(starts, 7, sample); got != want {
			t.Errorf("TrackAt(%v, 7, %d) = %d instead of %d", starts, sample, got, want)
		}
	}
	for track, want := range [][2]int{{0, 1}, {1, 4}, {4, 7}} {
		if from, to := impl.TrackRange(starts, 7, track); from != want[0] || to != want[1] {
			t.Errorf("TrackRange(%v, 7, %d) = %d, %d instead of %v", starts, track, from, to, want)
		}
	}
	for _, n := range append([]int{-1, 7, 8}, farNumbers...) {
		checkNoTrack(t, starts, 7, n)
	}
	if from, to := impl.TrackRange(starts, 7, 3); from != -1 || to != -1 {
		t.Errorf("TrackRange(%v, 7, 3) = %d, %d", starts, from, to)
	}
	// The last track may have only one sample.
	if from, to := impl.TrackRange([]int{0, 6}, 7, 1); from != 6 || to != 7 || impl.TrackAt([]int{0, 6}, 7, 6) != 1 || impl.TrackAt([]int{0, 6}, 7, 5) != 0 {
		t.Errorf("TrackRange([0 6], 7, 1) = %d, %d", from, to)
	}
}

func TestAllShortCues(t *testing.T) {
	for total := -1; total <= 5; total++ {
		checkCue(t, nil, total)
		for a := -1; a <= 6; a++ {
			checkCue(t, []int{a}, total)
			for b := -1; b <= 6; b++ {
				checkCue(t, []int{a, b}, total)
				for c := -1; c <= 6; c++ {
					checkCue(t, []int{a, b, c}, total)
				}
			}
		}
	}
}

func TestCuesFollowTheirDefinition(t *testing.T) {
	r := rand.New(rand.NewSource(1))
	valid, not := 0, 0
	for range 600 {
		starts, total := someCue(r, 256)
		if r.Intn(2) == 0 {
			starts[r.Intn(len(starts))] += r.Intn(7) - 3
		}
		if slowCue(starts, total) {
			valid++
		} else {
			not++
		}
		checkCue(t, starts, total)
	}
	if valid < 200 || not < 100 {
		t.Errorf("%d starts are valid, and %d are not", valid, not)
	}
}

func TestSplitTracksExamples(t *testing.T) {
	a := impl.Audio{Rate: 8000, Depth: 8, Channels: [][]int{{1, 20, 3, -4, 5, 66, 7}, {1, 19, 3, -5, 5, 64, -128}}}
	one := impl.Audio{Rate: 1, Depth: 16, Channels: [][]int{{32767, -32768, 3, -4, 5, 66, 7}}}
	for _, starts := range [][]int{{0}, {0, 1}, {0, 6}, {0, 2, 5}, {0, 1, 2, 3, 4, 5, 6}} {
		checkSplit(t, a, starts)
		checkSplit(t, one, starts)
	}
	want := []impl.Audio{
		{Rate: 8000, Depth: 8, Channels: [][]int{{1, 20}, {1, 19}}},
		{Rate: 8000, Depth: 8, Channels: [][]int{{3, -4, 5}, {3, -5, 5}}},
		{Rate: 8000, Depth: 8, Channels: [][]int{{66, 7}, {64, -128}}},
	}
	if got := impl.SplitTracks(a, []int{0, 2, 5}); !slices.EqualFunc(got, want, sameAudio) {
		t.Errorf("SplitTracks(%v) = %v", a, got)
	}
	for name, starts := range invalidCues() {
		checkNoSplit(t, name, a, starts)
		checkNoSplit(t, name, one, starts)
	}
	long := impl.Audio{Rate: impl.MaxRate, Depth: 4, Channels: [][]int{make([]int, 256), slices.Repeat([]int{-8}, 256)}}
	for _, starts := range [][]int{{0}, {0, 255}, everyStart(28, 9), everyStart(1, 9)} {
		checkSplit(t, long, starts)
	}
	checkNoSplit(t, "long audio", long, []int{0, 256})
	checkNoSplit(t, "long audio", long, everyStart(1, 10))
	single := impl.Audio{Rate: 8000, Depth: 8, Channels: [][]int{{5}}}
	checkSplit(t, single, []int{0})
	checkNoSplit(t, "a single sample", single, []int{0, 1})
	checkNoSplit(t, "a single sample", single, nil)
}

func TestSplitTracksOfInvalidArguments(t *testing.T) {
	for name, a := range invalidAudios() {
		for _, starts := range [][]int{nil, {}, {0}, {0, 1}} {
			checkNoSplit(t, name, a, starts)
		}
	}
	// Audio without samples is valid, but has no tracks.
	for channels := 1; channels <= 2; channels++ {
		a := impl.Audio{Rate: 8000, Depth: 8, Channels: make([][]int, channels)}
		for _, starts := range [][]int{nil, {}, {0}, {-1}, {0, 1}} {
			checkNoSplit(t, "audio without samples", a, starts)
		}
	}
	for _, a := range loudAudios() {
		if len(a.Channels[0]) > 0 {
			checkSplit(t, a, []int{0})
		}
	}
}

func TestTracksTouchNothing(t *testing.T) {
	a := impl.Audio{Rate: 8000, Depth: 8, Channels: [][]int{roomy([]int{1, 2, 3, 4, 5}), roomy([]int{6, 7, 8, 9, 10})}}
	was := cloneAudio(a)
	starts := roomy([]int{0, 2, 4})
	if !impl.ValidCue(starts, 5) || impl.TrackAt(starts, 5, 3) != 1 {
		t.Error("the starts are not valid")
	}
	parts := impl.SplitTracks(a, starts)
	want := impl.SplitTracks(was, starts)
	if len(parts) != 3 || len(want) != 3 {
		t.Fatalf("SplitTracks = %v", parts)
	}
	for i := range parts {
		for c := range parts[i].Channels {
			if !slices.Equal(parts[i].Channels[c], want[i].Channels[c]) {
				t.Errorf("channel %d of track %d became %v", c, i, parts[i].Channels[c])
			}
			checkUntouched(t, a.Channels[0], was.Channels[0], parts[i].Channels[c])
			checkUntouched(t, a.Channels[1], was.Channels[1], nil)
			checkUntouched(t, starts, []int{0, 2, 4}, nil)
		}
		parts[i].Channels[0] = nil
	}
	// A single track shares no memory either.
	whole := impl.SplitTracks(a, []int{0})
	whole[0].Channels[1][4] = 99
	whole[0].Channels[0] = nil
	if !sameAudio(a, was) {
		t.Errorf("the audio became %v", a)
	}
}

func TestP83TracksBeginAtTheBeginning(t *testing.T) {
	r := rand.New(rand.NewSource(83))
	several := 0
	for range 500 {
		starts, total := someCue(r, 256)
		if !impl.ValidCue(starts, total) || starts[0] != 0 {
			t.Errorf("ValidCue(%v, %d) is false", starts, total)
		}
		for len(starts) > 1 {
			several++
			starts = starts[:len(starts)-1]
			if !impl.ValidCue(starts, total) {
				t.Errorf("ValidCue(%v, %d) is false", starts, total)
			}
		}
	}
	if several < 1000 {
		t.Errorf("only %d starts were left out", several)
	}
}

func TestP84EverySampleHasATrack(t *testing.T) {
	r := rand.New(rand.NewSource(84))
	for range 200 {
		starts, total := someCue(r, 256)
		for sample := range total {
			track := impl.TrackAt(starts, total, sample)
			if from, to := impl.TrackRange(starts, total, track); sample < from || sample >= to {
				t.Errorf("sample %d of %v, %d is in track %d from %d to %d", sample, starts, total, track, from, to)
			}
		}
	}
}

func TestP85TracksFollowEachOther(t *testing.T) {
	r := rand.New(rand.NewSource(85))
	for range 200 {
		starts, total := someCue(r, 256)
		end := 0
		for track := range starts {
			from, to := impl.TrackRange(starts, total, track)
			if from != end || to <= from {
				t.Errorf("track %d of %v, %d is from %d to %d behind %d", track, starts, total, from, to, end)
			}
			for sample := from; sample < to; sample++ {
				if got := impl.TrackAt(starts, total, sample); got != track {
					t.Errorf("TrackAt(%v, %d, %d) = %d instead of %d", starts, total, sample, got, track)
				}
			}
			end = to
		}
		if end != total {
			t.Errorf("the tracks of %v, %d end at %d", starts, total, end)
		}
	}
}

func TestP86TracksMakeUpTheWhole(t *testing.T) {
	r := rand.New(rand.NewSource(86))
	several := 0
	for range 300 {
		a, starts := someTracks(r, 256)
		checkSplit(t, a, starts)
		parts := impl.SplitTracks(a, starts)
		if got := joined(parts); !slices.EqualFunc(got, a.Channels, slices.Equal[[]int]) {
			t.Errorf("the tracks of %v, %v have %v", a, starts, got)
		}
		whole := parts[0]
		for _, part := range parts[1:] {
			several++
			more, ok := impl.JoinAudio(whole, part)
			if !ok {
				t.Errorf("JoinAudio(%v, %v) fails", whole, part)
			}
			whole = more
		}
		if !sameAudio(whole, a) {
			t.Errorf("JoinAudio of the tracks of %v, %v is %v", a, starts, whole)
		}
		for _, part := range parts {
			if !impl.ValidAudio(part) || len(part.Channels[0]) == 0 {
				t.Errorf("SplitTracks(%v, %v) has %v", a, starts, part)
			}
		}
	}
	if several < 500 {
		t.Errorf("only %d tracks were joined", several)
	}
}

func TestP87StreamsOfTracksLoseNothing(t *testing.T) {
	r := rand.New(rand.NewSource(87))
	streams := 0
	for range 150 {
		a, starts := someTracks(r, 120)
		block := 1 + r.Intn(impl.MaxBlock)
		parts := impl.SplitTracks(a, starts)
		whole := []impl.Audio{}
		for _, part := range parts {
			list, ok := impl.EncodeStream(part, block)
			if !ok {
				break
			}
			got, _, ok := impl.DecodeStream(list)
			if !ok || got.Rate != a.Rate || got.Depth != a.Depth {
				t.Errorf("DecodeStream(%v) = %v, %v", list, got, ok)
			}
			whole = append(whole, got)
		}
		// A track may have too many bytes.
		if len(whole) < len(starts) {
			continue
		}
		streams += len(whole)
		if got := joined(whole); !slices.EqualFunc(got, a.Channels, slices.Equal[[]int]) {
			t.Errorf("the streams of the tracks of %v, %v have %v", a, starts, got)
		}
	}
	if streams < 300 {
		t.Errorf("only %d tracks have streams", streams)
	}
}

func TestP144OneTrackIsEverything(t *testing.T) {
	r := rand.New(rand.NewSource(144))
	for range 200 {
		a := someAudioOf(r, 1+r.Intn(256))
		if got := impl.SplitTracks(a, []int{0}); len(got) != 1 || !sameAudio(got[0], a) {
			t.Errorf("SplitTracks(%v, [0]) = %v", a, got)
		}
	}
}
