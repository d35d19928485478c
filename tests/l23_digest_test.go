package tests

import (
	"math/rand"
	"slices"
	"testing"

	"loop.example/losslessaudio/impl"
)

// digestRange is the range of the parts of a digest, as the specification has it.
const digestRange = 1000003

// slowDigest returns the digest of valid audio from exact sums, which are divided only at the end.
func slowDigest(a impl.Audio) int {
	numbers := append([]int{a.Rate, a.Depth, len(a.Channels)}, slowTurns(a.Channels)...)
	x, y := 1, 0
	for i, n := range numbers {
		x += n
		// Every number is part of this x and of all later ones.
		y += 1 + n*(len(numbers)-i)
	}
	return ((y%digestRange)+digestRange)%digestRange*digestRange + ((x%digestRange)+digestRange)%digestRange
}

// checkDigest fails if the digest is not the wanted one.
func checkDigest(t *testing.T, what string, a impl.Audio, want int) {
	t.Helper()
	if got := impl.DigestOf(a); got != want {
		t.Errorf("DigestOf of %s, %v, = %d instead of %d", what, a, got, want)
	}
}

// checkOtherDigest fails if two audios have the same digest.
func checkOtherDigest(t *testing.T, what string, a impl.Audio, b impl.Audio) {
	t.Helper()
	if n, m := impl.DigestOf(a), impl.DigestOf(b); n == m || n < 0 || m < 0 {
		t.Errorf("%s: DigestOf(%v) = %d and DigestOf(%v) = %d", what, a, n, b, m)
	}
}

// checkVerify fails if a list is not a stream with a digest, or is one, as should is.
func checkVerify(t *testing.T, what string, list []int, n int, should bool) {
	t.Helper()
	if got := impl.VerifyStream(list, n); got != should {
		t.Errorf("VerifyStream of %s, %v, %d = %v", what, list, n, got)
	}
}

func TestLimitsOfDigests(t *testing.T) {
	if impl.DigestRange != digestRange {
		t.Error("a limit is wrong")
	}
}

func TestDigestExamples(t *testing.T) {
	for _, c := range []struct {
		a    impl.Audio
		x, y int
	}{
		{impl.Audio{Rate: 1, Depth: 4, Channels: [][]int{{}}}, 7, 15},
		{impl.Audio{Rate: 1, Depth: 4, Channels: [][]int{nil, nil}}, 8, 16},
		{impl.Audio{Rate: 1, Depth: 5, Channels: [][]int{nil}}, 8, 17},
		{impl.Audio{Rate: 2, Depth: 4, Channels: [][]int{nil}}, 8, 18},
		{impl.Audio{Rate: 1, Depth: 4, Channels: [][]int{{0}}}, 7, 22},
		{impl.Audio{Rate: 1, Depth: 4, Channels: [][]int{{5}}}, 12, 27},
		{impl.Audio{Rate: 1, Depth: 4, Channels: [][]int{{-7}}}, 0, 15},
		// Both parts are never negative.
		{impl.Audio{Rate: 1, Depth: 4, Channels: [][]int{{-8}}}, 1000002, 14},
		{impl.Audio{Rate: 1, Depth: 4, Channels: [][]int{{-8, 0, -8}}}, 999994, 4},
		{impl.Audio{Rate: 1, Depth: 4, Channels: [][]int{{-8, -8, -8}}}, 999986, 999991},
		{impl.Audio{Rate: 1, Depth: 16, Channels: [][]int{{-32768}}}, 967254, 967293},
		{impl.Audio{Rate: 1, Depth: 16, Channels: [][]int{{-32768, 32767}}}, 18, 967311},
		// Both channels in turn.
		{impl.Audio{Rate: 1, Depth: 4, Channels: [][]int{{1, 2}, {3, 4}}}, 18, 69},
		{impl.Audio{Rate: 1, Depth: 4, Channels: [][]int{{1, 3}, {2, 4}}}, 18, 68},
		// The greatest rate leaves the range together with the depth.
		{impl.Audio{Rate: 999999, Depth: 4, Channels: [][]int{nil}}, 2, 0},
		{impl.Audio{Rate: 999999, Depth: 4, Channels: [][]int{{-2}}}, 0, 0},
		{impl.Audio{Rate: 999999, Depth: 4, Channels: [][]int{{-3}}}, 1000002, 1000002},
		{impl.Audio{Rate: 999997, Depth: 4, Channels: [][]int{nil}}, 0, 999997},
		{impl.Audio{Rate: 999998, Depth: 4, Channels: [][]int{nil}}, 1, 1000000},
	} {
		checkDigest(t, "an example", c.a, c.y*digestRange+c.x)
		if want := slowDigest(c.a); want != c.y*digestRange+c.x {
			t.Errorf("the slow digest of %v is %d", c.a, want)
		}
	}
}

func TestDigestsFollowTheirDefinition(t *testing.T) {
	r := rand.New(rand.NewSource(1))
	audios := loudAudios()
	for range 600 {
		audios = append(audios, someLevels(r, []int{9, 60, impl.MaxTotal}[r.Intn(3)]))
	}
	for _, n := range []int{-32768, -32767, -1, 0, 1, 32767} {
		for _, rate := range []int{1, 967236, 967237, impl.MaxRate} {
			list := slices.Repeat([]int{n}, impl.MaxTotal)
			audios = append(audios, impl.Audio{Rate: rate, Depth: 16, Channels: [][]int{list}}, impl.Audio{Rate: rate, Depth: 16, Channels: [][]int{list, list}})
		}
	}
	for _, a := range audios {
		checkDigest(t, "some audio", a, slowDigest(a))
		if n := impl.DigestOf(a); n < 0 || n >= digestRange*digestRange {
			t.Errorf("DigestOf(%v) = %d", a, n)
		}
	}
}

func TestDigestsOfInvalidAudio(t *testing.T) {
	for name, a := range invalidAudios() {
		checkDigest(t, name, a, -1)
	}
}

func TestDigestsTouchNothing(t *testing.T) {
	left, right := roomy([]int{1, -2, 3}), roomy([]int{-4, 5, -6})
	impl.DigestOf(audioOf(4, left, right))
	impl.DigestOf(audioOf(4, left))
	checkUntouched(t, left, []int{1, -2, 3}, nil)
	checkUntouched(t, right, []int{-4, 5, -6}, nil)
	a := audioOf(4, left, right)
	list, _ := impl.EncodeStream(a, 2)
	bytes := roomy(list)
	checkVerify(t, "a stream", bytes, slowDigest(a), true)
	checkUntouched(t, bytes, list, nil)
}

func TestVerifyStreamExamples(t *testing.T) {
	a := audioOf(8, []int{1, -2, 3, 100, -128}, []int{0, 0, 7, 127, -1})
	list, _ := impl.EncodeStream(a, 2)
	n := slowDigest(a)
	checkVerify(t, "a stream", list, n, true)
	for _, other := range append([]int{n - 1, n + 1, -n, -1, 0, n + digestRange, n - digestRange, n % digestRange, n / digestRange}, farNumbers...) {
		checkVerify(t, "a stream with another digest", list, other, false)
	}
	for block := 1; block <= impl.MaxBlock; block++ {
		again, ok := impl.EncodeStream(a, block)
		checkVerify(t, "a stream with another block", again, n, ok)
	}
	for name, b := range map[string]impl.Audio{
		"another sample": audioOf(8, []int{1, -2, 3, 100, -127}, a.Channels[1]), "another rate": {Rate: 8001, Depth: 8, Channels: a.Channels}, "another depth": {Rate: 8000, Depth: 9, Channels: a.Channels},
		"one channel": audioOf(8, a.Channels[0]), "exchanged channels": audioOf(8, a.Channels[1], a.Channels[0]), "no samples": audioOf(8, nil, nil),
	} {
		other, ok := impl.EncodeStream(b, 2)
		checkVerify(t, name, other, n, false)
		checkVerify(t, name, other, slowDigest(b), ok)
		checkVerify(t, name+" told for the audio", list, slowDigest(b), false)
	}
	empty := audioOf(4, nil)
	stream, _ := impl.EncodeStream(empty, 1)
	checkVerify(t, "a stream without samples", stream, slowDigest(empty), true)
	checkVerify(t, "a stream without samples", stream, 0, false)
	checkVerify(t, "a stream without samples", stream, -1, false)
}

func TestVerifyStreamOfOtherBytes(t *testing.T) {
	a := audioOf(8, []int{1, -2, 3})
	list, _ := impl.EncodeStream(a, 2)
	n := slowDigest(a)
	// -1 is the digest of audio that is not valid.
	for _, digest := range []int{n, -1, 0, 1} {
		checkVerify(t, "no bytes", nil, digest, false)
		checkVerify(t, "no bytes", []int{}, digest, false)
		checkVerify(t, "all but the last byte", list[:len(list)-1], digest, false)
		checkVerify(t, "one byte more", append(slices.Clone(list), 0), digest, false)
		checkVerify(t, "a wave", impl.WriteWave(a), digest, false)
		for name, bad := range invalidBytes() {
			checkVerify(t, name, bad, digest, false)
			checkVerify(t, name+" behind a stream", slices.Concat(list, bad), digest, false)
		}
		for i := range list {
			for _, more := range []int{1, 128, 255} {
				bad := slices.Clone(list)
				bad[i] = (bad[i] + more) % 256
				checkVerify(t, "a damaged stream", bad, digest, false)
			}
		}
	}
}

func TestP111DigestsSeeEverySample(t *testing.T) {
	r := rand.New(rand.NewSource(111))
	audios := loudAudios()
	for range 100 {
		audios = append(audios, someLevels(r, 40))
	}
	changed := 0
	for _, a := range audios {
		for c, list := range a.Channels {
			for i := range list {
				for _, n := range []int{list[i] - 1, list[i] + 1} {
					b := cloneAudio(a)
					b.Channels[c][i] = n
					if impl.ValidAudio(b) {
						changed++
						checkOtherDigest(t, "another sample", a, b)
					}
				}
			}
		}
	}
	if changed < 3000 {
		t.Errorf("only %d samples were replaced", changed)
	}
}

func TestP112DigestsSeeTheRateAndTheChannels(t *testing.T) {
	r := rand.New(rand.NewSource(112))
	for range 200 {
		a := someLevels(r, 30)
		for _, rate := range []int{1, a.Rate - 1, a.Rate + 1, a.Rate ^ 1<<r.Intn(19), 1 + r.Intn(impl.MaxRate), impl.MaxRate} {
			b := impl.Audio{Rate: rate, Depth: a.Depth, Channels: a.Channels}
			if rate != a.Rate && impl.ValidAudio(b) {
				checkOtherDigest(t, "another rate", a, b)
			}
		}
		// The same samples in turn.
		if len(a.Channels) == 2 && len(a.Channels[0]) < 128 {
			checkOtherDigest(t, "another number of channels", a, impl.Audio{Rate: a.Rate, Depth: a.Depth, Channels: [][]int{slowTurns(a.Channels)}})
		}
		if a.Depth < impl.MaxDepth {
			checkOtherDigest(t, "another depth", a, impl.Audio{Rate: a.Rate, Depth: a.Depth + 1, Channels: a.Channels})
		}
	}
	checkOtherDigest(t, "no samples in more channels", audioOf(8, nil), audioOf(8, nil, nil))
	checkOtherDigest(t, "samples in another order", audioOf(8, []int{1, 2}), audioOf(8, []int{2, 1}))
	checkOtherDigest(t, "exchanged channels", audioOf(8, []int{1}, []int{2}), audioOf(8, []int{2}, []int{1}))
	checkOtherDigest(t, "one zero more", audioOf(8, []int{1}), audioOf(8, []int{1, 0}))
}

func TestP113DigestsVerifyStreams(t *testing.T) {
	r := rand.New(rand.NewSource(113))
	right, wrong := 0, 0
	for range 600 {
		a, _, list := someStreamUpTo(r, 40)
		n := slowDigest(a)
		switch r.Intn(6) {
		case 0:
			list[r.Intn(len(list))] = r.Intn(256)
		case 1:
			list[5+r.Intn(4)] ^= 1 << r.Intn(8)
		case 2:
			n += r.Intn(3) - 1
		case 3:
			n = slowDigest(someLevels(r, 9))
		}
		b, _, ok := slowDecode(list)
		should := ok && slowDigest(b) == n
		checkVerify(t, "bytes", list, n, should)
		if should {
			right++
		} else {
			wrong++
		}
	}
	if right < 200 || wrong < 150 {
		t.Errorf("%d streams were verified, and %d were not", right, wrong)
	}
}
