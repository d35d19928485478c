package tests

import (
	"math/rand"
	"slices"
	"testing"

	"loop.example/losslessaudio/impl"
)

// slowSeek returns the last point whose sample is at most another one, by looking at all.
func slowSeek(points []impl.Point, sample int) (impl.Point, bool) {
	for i := len(points) - 1; i >= 0; i-- {
		if points[i].Sample <= sample {
			return points[i], true
		}
	}
	return impl.Point{}, false
}

// slowPoints returns the points of a stream from the sizes of its frames.
func slowPoints(a impl.Audio, block int) []impl.Point {
	points, at := []impl.Point{}, 11
	for i, part := range frameParts(a, block) {
		points = append(points, impl.Point{Sample: i * block, At: at})
		at += len(part)
	}
	return points
}

// pointsOf returns points of samples and places in turn.
func pointsOf(numbers ...int) []impl.Point {
	points := []impl.Point{}
	for i := 0; i < len(numbers); i += 2 {
		points = append(points, impl.Point{Sample: numbers[i], At: numbers[i+1]})
	}
	return points
}

// somePoints returns valid points that are the same in every run.
func somePoints(r *rand.Rand, most int) []impl.Point {
	points := []impl.Point{}
	p := impl.Point{Sample: r.Intn(most), At: r.Intn(most)}
	step := 1 + r.Intn(40)
	for p.Sample <= impl.MaxTotal && p.At <= impl.MaxBytes {
		points = append(points, p)
		p.Sample += 1 + r.Intn(step)
		p.At += 1 + r.Intn(200)
	}
	return points
}

// checkSeek fails if SeekPoint does not return the wanted point.
func checkSeek(t *testing.T, points []impl.Point, sample int, want impl.Point, found bool) {
	t.Helper()
	if got, ok := impl.SeekPoint(points, sample); ok != found || got != want {
		t.Errorf("SeekPoint(%v, %d) = %v, %v instead of %v, %v", points, sample, got, ok, want, found)
	}
}

// checkPoints fails if a stream does not have the wanted points.
func checkPoints(t *testing.T, what string, list []int, want []impl.Point) {
	t.Helper()
	if got, ok := impl.BuildSeek(list); !ok || !slices.Equal(got, want) {
		t.Errorf("BuildSeek of %s, %v, = %v, %v instead of %v", what, list, got, ok, want)
	}
}

// checkNoPoints fails if bytes that are no stream have points or samples.
func checkNoPoints(t *testing.T, what string, list []int) {
	t.Helper()
	if got, ok := impl.BuildSeek(list); ok || len(got) > 0 {
		t.Errorf("BuildSeek of %s, %v, = %v, %v", what, list, got, ok)
	}
	for _, count := range []int{0, 1, 2} {
		checkNoRead(t, what, list, 0, count)
	}
}

// checkRead fails if the samples that are read are not the wanted ones.
func checkRead(t *testing.T, list []int, from int, count int, want [][]int) {
	t.Helper()
	if got, ok := impl.ReadSamples(list, from, count); !ok || !slices.EqualFunc(got, want, slices.Equal[[]int]) {
		t.Errorf("ReadSamples(%v, %d, %d) = %v, %v instead of %v", list, from, count, got, ok, want)
	}
}

// checkNoRead fails if samples are read.
func checkNoRead(t *testing.T, what string, list []int, from int, count int) {
	t.Helper()
	if got, ok := impl.ReadSamples(list, from, count); ok || len(got) > 0 {
		t.Errorf("ReadSamples of %s, %v, %d, %d = %v, %v", what, list, from, count, got, ok)
	}
}

// cutChannels returns the samples of all channels from an index on.
func cutChannels(a impl.Audio, from int, count int) [][]int {
	part := [][]int{}
	for _, list := range a.Channels {
		part = append(part, list[from:from+count])
	}
	return part
}

func TestBuildSeekExamples(t *testing.T) {
	a := impl.Audio{Rate: 8000, Depth: 8, Channels: [][]int{{5, 5, 5, 5, 5, 5, 7}}}
	// Each frame has six bytes for its beginning, two for its samples and two for its check.
	for _, c := range []struct {
		block int
		want  []impl.Point
	}{
		{1, pointsOf(0, 11, 1, 21, 2, 31, 3, 41, 4, 51, 5, 61, 6, 71)},
		{2, pointsOf(0, 11, 2, 21, 4, 31, 6, 41)},
		{3, pointsOf(0, 11, 3, 21, 6, 31)},
		{6, pointsOf(0, 11, 6, 21)},
		{7, pointsOf(0, 11)},
		{64, pointsOf(0, 11)},
	} {
		list := slowStream(a, c.block)
		checkPoints(t, "an example", list, c.want)
	}
	for channels := 1; channels <= 2; channels++ {
		empty := impl.Audio{Rate: 8000, Depth: 8, Channels: make([][]int, channels)}
		checkPoints(t, "a stream without samples", slowStream(empty, 3), nil)
	}
	// The number of the frame 128 has two bytes.
	long := impl.Audio{Rate: 8000, Depth: 4, Channels: [][]int{make([]int, 131)}}
	points, ok := impl.BuildSeek(slowStream(long, 1))
	if !ok || len(points) != 131 || points[128] != (impl.Point{Sample: 128, At: 11 + 128*10}) || points[130] != (impl.Point{Sample: 130, At: 11 + 128*10 + 2*11}) {
		t.Errorf("BuildSeek of many frames = %v, %v", points, ok)
	}
}

func TestBuildSeekFollowsItsDefinition(t *testing.T) {
	r := rand.New(rand.NewSource(1))
	for range 150 {
		a, block, list := someStreamUpTo(r, 60)
		checkPoints(t, "a stream", list, slowPoints(a, block))
	}
}

func TestSeekingOfNoStreams(t *testing.T) {
	r := rand.New(rand.NewSource(2))
	_, _, list := someStreamUpTo(r, 9)
	for size := range list {
		checkNoPoints(t, "a part of a stream", list[:size])
	}
	for i := range list {
		bad := slices.Clone(list)
		bad[i] ^= 128
		if _, _, ok := slowDecode(bad); !ok {
			checkNoPoints(t, "a damaged stream", bad)
		}
		bad[i] = list[i] + 256
		checkNoPoints(t, "a number that is no byte", bad)
	}
	checkNoPoints(t, "more than a stream", append(slices.Clone(list), 0))
	checkNoPoints(t, "an empty list", nil)
	for name, bad := range invalidBytes() {
		checkNoPoints(t, name, bad)
		checkNoPoints(t, name+" behind a stream", slices.Concat(list, bad))
	}
	a := impl.Audio{Rate: 8000, Depth: 16, Channels: [][]int{make([]int, impl.MaxTotal)}}
	checkNoPoints(t, "a stream that is too long", slowStream(a, 1))
	if _, missing, ok := impl.RepairStream(slowStream(a, 64)[:11]); !ok || len(missing) != 4 {
		t.Error("RepairStream fails")
	}
	checkNoPoints(t, "only the first bytes of a stream", slowStream(a, 64)[:11])
}

func TestSeekPointExamples(t *testing.T) {
	points := []impl.Point{{Sample: 3, At: 11}, {Sample: 6, At: 30}, {Sample: 7, At: 31}, {Sample: 200, At: 2048}}
	for _, c := range []struct {
		sample int
		want   impl.Point
		found  bool
	}{
		{-1, impl.Point{}, false}, {0, impl.Point{}, false}, {2, impl.Point{}, false}, {3, points[0], true}, {4, points[0], true}, {5, points[0], true},
		{6, points[1], true}, {7, points[2], true}, {8, points[2], true}, {199, points[2], true}, {200, points[3], true}, {201, points[3], true}, {256, points[3], true}, {257, points[3], true},
	} {
		checkSeek(t, points, c.sample, c.want, c.found)
	}
	for _, n := range farNumbers {
		if n < 0 {
			checkSeek(t, points, n, impl.Point{}, false)
		} else {
			checkSeek(t, points, n, points[3], true)
		}
		checkSeek(t, nil, n, impl.Point{}, false)
	}
	checkSeek(t, nil, 0, impl.Point{}, false)
	checkSeek(t, []impl.Point{}, impl.MaxTotal, impl.Point{}, false)
	one := []impl.Point{{}}
	checkSeek(t, one, 0, impl.Point{}, true)
	checkSeek(t, one, impl.MaxTotal, impl.Point{}, true)
	checkSeek(t, one, -1, impl.Point{}, false)
	limits := []impl.Point{{Sample: impl.MaxTotal, At: impl.MaxBytes}}
	checkSeek(t, limits, impl.MaxTotal-1, impl.Point{}, false)
	checkSeek(t, limits, impl.MaxTotal, limits[0], true)
	both := []impl.Point{{}, limits[0]}
	checkSeek(t, both, impl.MaxTotal-1, impl.Point{}, true)
	checkSeek(t, both, impl.MaxTotal, limits[0], true)
}

func TestSeekPointFollowsItsDefinition(t *testing.T) {
	r := rand.New(rand.NewSource(3))
	for range 200 {
		points := somePoints(r, 100)
		for sample := -2; sample < impl.MaxTotal+3; sample++ {
			want, found := slowSeek(points, sample)
			checkSeek(t, points, sample, want, found)
		}
	}
}

func TestSeekPointOfManyPoints(t *testing.T) {
	// There are more samples than points, so that one of them can be left out.
	all := []impl.Point{}
	for i := range impl.MaxTotal + 1 {
		all = append(all, impl.Point{Sample: i, At: 7*i + 1})
	}
	for _, points := range [][]impl.Point{all[1:], all[:impl.MaxTotal], slices.Delete(slices.Clone(all), 100, 101)} {
		for sample := range impl.MaxTotal + 2 {
			want, found := slowSeek(points, sample)
			checkSeek(t, points, sample, want, found)
		}
	}
	for sample := range impl.MaxTotal + 2 {
		checkSeek(t, all, sample, impl.Point{}, false)
	}
}

func TestSeekPointOfInvalidPoints(t *testing.T) {
	for name, points := range map[string][]impl.Point{
		"a negative sample":             pointsOf(-1, 0, 5, 9),
		"a negative place":              pointsOf(0, -1, 5, 9),
		"a sample that is too great":    pointsOf(0, 1, impl.MaxTotal+1, 9),
		"a place that is too great":     pointsOf(0, 1, 5, impl.MaxBytes+1),
		"the same sample twice":         pointsOf(0, 1, 5, 9, 5, 10),
		"the same place twice":          pointsOf(0, 1, 5, 9, 6, 9),
		"the same point twice":          pointsOf(0, 1, 0, 1),
		"samples that descend":          pointsOf(1, 1, 0, 9),
		"places that descend":           pointsOf(0, 9, 1, 1),
		"a last sample that is less":    pointsOf(0, 1, 5, 9, 200, 10, 199, 11),
		"a last place that is less":     pointsOf(0, 1, 5, 9, 7, 11, 8, 10),
		"samples and places descend":    pointsOf(5, 9, 0, 1),
		"only a negative sample":        pointsOf(-1, 5),
		"only a negative place":         pointsOf(0, -5),
		"only a sample that is greater": pointsOf(257, 5),
		"only a place that is greater":  pointsOf(0, 2049),
		"zeros":                         make([]impl.Point, 2),
		"many zeros":                    make([]impl.Point, 1000),
	} {
		for _, sample := range append([]int{-1, 0, 1, 4, 5, 6, 100, impl.MaxTotal, impl.MaxTotal + 1}, farNumbers...) {
			if got, ok := impl.SeekPoint(points, sample); ok || got != (impl.Point{}) {
				t.Errorf("SeekPoint with %s, %d, = %v, %v", name, sample, got, ok)
			}
		}
	}
	for _, n := range farNumbers {
		for _, points := range [][]impl.Point{pointsOf(n, 0), pointsOf(0, n), pointsOf(0, 0, n, 1), pointsOf(0, 0, 1, n), pointsOf(0, 0, n, 1, 2, 2), pointsOf(0, 0, 1, n, 2, 2)} {
			checkSeek(t, points, 0, impl.Point{}, false)
			checkSeek(t, points, impl.MaxTotal, impl.Point{}, false)
		}
	}
}

func TestReadSamplesExamples(t *testing.T) {
	a := impl.Audio{Rate: 8000, Depth: 8, Channels: [][]int{{1, 20, 3, -4, 5, 66, 7}, {1, 19, 3, -5, 5, 64, 9}}}
	one := impl.Audio{Rate: 8000, Depth: 8, Channels: a.Channels[1:]}
	for _, block := range []int{1, 2, 3, 6, 7, 8, 64} {
		for _, b := range []impl.Audio{a, one} {
			list := slowStream(b, block)
			for from := -2; from <= 9; from++ {
				for count := -2; count <= 9; count++ {
					if from >= 0 && count >= 0 && from+count <= 7 {
						checkRead(t, list, from, count, cutChannels(b, from, count))
					} else {
						checkNoRead(t, "a stream", list, from, count)
					}
				}
			}
			for _, n := range farNumbers {
				for _, m := range append([]int{0, 1, 6, 7, 8, -1, -n, 7 - n}, farNumbers...) {
					checkNoRead(t, "a stream", list, n, m)
					checkNoRead(t, "a stream", list, m, n)
				}
			}
		}
	}
	checkRead(t, slowStream(a, 3), 2, 3, [][]int{{3, -4, 5}, {3, -5, 5}})
	checkRead(t, slowStream(a, 3), 7, 0, [][]int{{}, {}})
	checkRead(t, slowStream(one, 3), 0, 0, [][]int{{}})
}

func TestReadSamplesWithoutSamples(t *testing.T) {
	for channels := 1; channels <= 2; channels++ {
		list := slowStream(impl.Audio{Rate: 8000, Depth: 8, Channels: make([][]int, channels)}, 3)
		checkRead(t, list, 0, 0, make([][]int, channels))
		for _, c := range [][2]int{{0, 1}, {1, 0}, {1, -1}, {-1, 1}, {-1, 0}, {0, -1}} {
			checkNoRead(t, "a stream without samples", list, c[0], c[1])
		}
	}
	all := impl.Audio{Rate: 8000, Depth: 8, Channels: [][]int{make([]int, impl.MaxTotal)}}
	list := slowStream(all, 64)
	checkRead(t, list, 0, impl.MaxTotal, all.Channels)
	checkRead(t, list, impl.MaxTotal, 0, [][]int{{}})
	checkNoRead(t, "all samples", list, impl.MaxTotal, 1)
	checkNoRead(t, "all samples", list, 0, impl.MaxTotal+1)
	checkNoRead(t, "all samples", list, impl.MaxTotal+1, 0)
	checkNoRead(t, "all samples", list, impl.MaxTotal+1, -1)
}

func TestSeekingTouchesNothing(t *testing.T) {
	a := impl.Audio{Rate: 8000, Depth: 8, Channels: [][]int{{1, 20, 3, -4, 5, 66, 7}, {1, 19, 3, -5, 5, 64, 9}}}
	was := slowStream(a, 3)
	list := roomy(was)
	points, ok := impl.BuildSeek(list)
	if !ok || len(points) != 3 {
		t.Error("BuildSeek fails")
	}
	before := slices.Clone(points)
	if p, ok := impl.SeekPoint(points, 4); !ok || p != before[1] || !slices.Equal(points, before) {
		t.Errorf("SeekPoint = %v, %v, and the points became %v", p, ok, points)
	}
	part, ok := impl.ReadSamples(list, 1, 4)
	if !ok {
		t.Fatal("ReadSamples fails")
	}
	checkUntouched(t, list, was, part[0])
	if !slices.Equal(part[1], a.Channels[1][1:5]) {
		t.Errorf("the second channel became %v", part[1])
	}
	checkUntouched(t, list, was, part[1])
}

func TestP75PointsLeadToFrames(t *testing.T) {
	r := rand.New(rand.NewSource(75))
	for range 200 {
		a, block, list := someStream(r)
		points, ok := impl.BuildSeek(list)
		if !ok || len(points) != frameCount(a, block) {
			t.Errorf("BuildSeek(%v) = %v, %v", list, points, ok)
		}
		for i, p := range points {
			f, _, ok := impl.DecodeFrame(list, p.At)
			if !ok || f.Number != i || !sameFrame(f, frameAt(a, block, p.Sample/block)) || p.Sample != i*block {
				t.Errorf("DecodeFrame(%v, %d) = %v, %v at sample %d", list, p.At, f, ok, p.Sample)
			}
			if part := cutChannels(a, p.Sample, len(f.Channels[0])); !slices.EqualFunc(part, f.Channels, slices.Equal[[]int]) {
				t.Errorf("the frame %v does not begin with sample %d of %v", f, p.Sample, a)
			}
		}
	}
}

func TestP76TheNearestPointBeforeIsTold(t *testing.T) {
	r := rand.New(rand.NewSource(76))
	found := 0
	for range 300 {
		points := somePoints(r, 60)
		for range 30 {
			sample := r.Intn(impl.MaxTotal + 1)
			p, ok := impl.SeekPoint(points, sample)
			if !ok {
				continue
			}
			found++
			if !slices.Contains(points, p) || p.Sample > sample {
				t.Errorf("SeekPoint(%v, %d) = %v", points, sample, p)
			}
			for _, q := range points {
				if q.Sample > p.Sample && q.Sample <= sample {
					t.Errorf("SeekPoint(%v, %d) = %v instead of %v", points, sample, p, q)
				}
			}
		}
	}
	if found < 5000 {
		t.Errorf("only %d points were found", found)
	}
}

func TestP77PartsAreReadLikeTheWhole(t *testing.T) {
	r := rand.New(rand.NewSource(77))
	for range 60 {
		_, _, list := someStream(r)
		a, _, ok := impl.DecodeStream(list)
		if !ok {
			t.Fatalf("DecodeStream(%v) fails", list)
		}
		total := len(a.Channels[0])
		checkRead(t, list, 0, total, a.Channels)
		for range 10 {
			from := r.Intn(total + 1)
			to := from + r.Intn(total-from+1)
			part, ok := impl.CutAudio(a, from, to)
			if !ok {
				t.Errorf("CutAudio(%v, %d, %d) fails", a, from, to)
			}
			checkRead(t, list, from, to-from, part.Channels)
		}
	}
}

func TestP141SeekingFindsFrames(t *testing.T) {
	r := rand.New(rand.NewSource(141))
	for range 60 {
		_, _, list := someStreamUpTo(r, 60)
		points, _ := impl.BuildSeek(list)
		for _, p := range points {
			f, _, ok := impl.DecodeFrame(list, p.At)
			if !ok {
				t.Errorf("DecodeFrame(%v, %d) fails", list, p.At)
				continue
			}
			checkRead(t, list, p.Sample, len(f.Channels[0]), f.Channels)
		}
	}
}

func TestP160PointsBeginAndEnd(t *testing.T) {
	r := rand.New(rand.NewSource(160))
	for range 300 {
		points := somePoints(r, 100)
		for sample := -1; sample < points[0].Sample; sample++ {
			checkSeek(t, points, sample, impl.Point{}, false)
		}
		checkSeek(t, points, points[0].Sample, points[0], true)
		checkSeek(t, points, impl.MaxTotal, points[len(points)-1], true)
	}
	for range 60 {
		a, _, list := someStream(r)
		points, _ := impl.BuildSeek(list)
		if len(a.Channels[0]) == 0 {
			checkSeek(t, points, impl.MaxTotal, impl.Point{}, false)
			continue
		}
		checkSeek(t, points, -1, impl.Point{}, false)
		checkSeek(t, points, impl.MaxTotal, points[len(points)-1], true)
	}
}
