package tests

import (
	"encoding/binary"
	"math"
	"math/rand"
	"slices"
	"testing"

	"loop.example/losslessaudio/impl"
)

// waveHead returns the first bytes of a wave, of any numbers that fit into their bytes.
func waveHead(channels int, depth int, rate int, size int) []int {
	form := []byte("WAVE")
	form = binary.LittleEndian.AppendUint16(form, uint16(channels))
	form = binary.LittleEndian.AppendUint16(form, uint16(depth))
	form = binary.LittleEndian.AppendUint32(form, uint32(rate))
	form = binary.LittleEndian.AppendUint32(form, uint32(size))
	return bytesOfText(string(form))
}

// waveBody returns the bytes of samples, of which only the lowest 16 bits count.
func waveBody(samples ...int) []int {
	form := []byte{}
	for _, n := range samples {
		form = binary.LittleEndian.AppendUint16(form, uint16(n))
	}
	return bytesOfText(string(form))
}

// slowWave returns the bytes of a wave by their definition.
func slowWave(a impl.Audio) []int {
	turns := slowTurns(a.Channels)
	return append(waveHead(len(a.Channels), a.Depth, a.Rate, 2*len(turns)), waveBody(turns...)...)
}

// slowReadWave returns the audio of a wave by looking at all that the definition of a wave says.
func slowReadWave(list []int) (impl.Audio, bool) {
	if len(list) < 16 || slices.Min(list) < 0 || slices.Max(list) > 255 {
		return impl.Audio{}, false
	}
	form := []byte{}
	for _, n := range list {
		form = append(form, byte(n))
	}
	channels, rest := int(binary.LittleEndian.Uint16(form[4:])), form[16:]
	a := impl.Audio{Rate: int(binary.LittleEndian.Uint32(form[8:])), Depth: int(binary.LittleEndian.Uint16(form[6:]))}
	size := int(binary.LittleEndian.Uint32(form[12:]))
	if string(form[:4]) != "WAVE" || channels < 1 || channels > 2 || a.Depth < 4 || a.Depth > 16 || a.Rate < 1 || a.Rate > 999999 {
		return impl.Audio{}, false
	}
	if size != len(rest) || size%(2*channels) != 0 || size/(2*channels) > 256 {
		return impl.Audio{}, false
	}
	a.Channels = make([][]int, channels)
	for i := 0; i < size; i += 2 {
		n := int(binary.LittleEndian.Uint16(rest[i:]))
		if n >= 32768 {
			n -= 65536
		}
		if n < -1<<(a.Depth-1) || n >= 1<<(a.Depth-1) {
			return impl.Audio{}, false
		}
		a.Channels[i/2%channels] = append(a.Channels[i/2%channels], n)
	}
	return a, true
}

// checkWave fails if bytes are not exactly the wave of some audio.
func checkWave(t *testing.T, a impl.Audio, want []int) {
	t.Helper()
	if got := impl.WriteWave(a); !slices.Equal(got, want) {
		t.Errorf("WriteWave(%v) = %v instead of %v", a, got, want)
	}
	if got, ok := impl.ReadWave(want); !ok || !sameAudio(got, a) {
		t.Errorf("ReadWave(%v) = %v, %v instead of %v", want, got, ok, a)
	}
}

// checkNoWave fails if ReadWave accepts bytes.
func checkNoWave(t *testing.T, what string, list []int) {
	t.Helper()
	if got, ok := impl.ReadWave(list); ok || !sameAudio(got, impl.Audio{}) {
		t.Errorf("ReadWave of %s, %v, = %v, %v", what, list, got, ok)
	}
}

// checkReading fails if ReadWave does not decide like the definition; it reports whether there is audio.
func checkReading(t *testing.T, list []int) bool {
	t.Helper()
	want, ok := slowReadWave(list)
	if !ok {
		checkNoWave(t, "bytes that are no wave", list)
		return false
	}
	checkWave(t, want, list)
	return true
}

func TestLimitsOfWaves(t *testing.T) {
	if impl.WaveBytes != 16 {
		t.Error("a limit is wrong")
	}
}

func TestWaveExamples(t *testing.T) {
	for _, c := range []struct {
		a    impl.Audio
		want []int
	}{
		{audioOf(8, []int{1, -2}), []int{87, 65, 86, 69, 1, 0, 8, 0, 64, 31, 0, 0, 4, 0, 0, 0, 1, 0, 254, 255}},
		{audioOf(4, nil), []int{87, 65, 86, 69, 1, 0, 4, 0, 64, 31, 0, 0, 0, 0, 0, 0}},
		{impl.Audio{Rate: 999999, Depth: 16, Channels: [][]int{nil, {}}}, []int{87, 65, 86, 69, 2, 0, 16, 0, 63, 66, 15, 0, 0, 0, 0, 0}},
		{
			impl.Audio{Rate: 65536, Depth: 16, Channels: [][]int{{-32768, 256, -1}, {32767, -257, 0}}},
			[]int{87, 65, 86, 69, 2, 0, 16, 0, 0, 0, 1, 0, 12, 0, 0, 0, 0, 128, 255, 127, 0, 1, 255, 254, 255, 255, 0, 0},
		},
		{impl.Audio{Rate: 1, Depth: 4, Channels: [][]int{{7, -8}}}, []int{87, 65, 86, 69, 1, 0, 4, 0, 1, 0, 0, 0, 4, 0, 0, 0, 7, 0, 248, 255}},
		{impl.Audio{Rate: 1, Depth: 4, Channels: [][]int{{7}, {-8}}}, []int{87, 65, 86, 69, 2, 0, 4, 0, 1, 0, 0, 0, 4, 0, 0, 0, 7, 0, 248, 255}},
		{impl.Audio{Rate: 1, Depth: 4, Channels: [][]int{{-8}, {7}}}, []int{87, 65, 86, 69, 2, 0, 4, 0, 1, 0, 0, 0, 4, 0, 0, 0, 248, 255, 7, 0}},
	} {
		checkWave(t, c.a, c.want)
	}
}

func TestWavesUpToMaxTotal(t *testing.T) {
	left, right := numbersFrom(-32768, 257, 256), numbersFrom(32767, -257, 256)
	two := impl.Audio{Rate: 257, Depth: 16, Channels: [][]int{left, right}}
	checkWave(t, two, slowWave(two))
	if list := impl.WriteWave(two); len(list) != 1040 || list[12] != 0 || list[13] != 4 {
		t.Errorf("WriteWave of 512 samples = %v", list)
	}
	one := impl.Audio{Rate: 257, Depth: 16, Channels: [][]int{left}}
	checkWave(t, one, slowWave(one))
	// One sample more in one channel, in both, and in half of both.
	checkNoWave(t, "257 samples", append(waveHead(1, 16, 257, 514), waveBody(append(left, 0)...)...))
	checkNoWave(t, "257 samples in two channels", append(waveHead(2, 16, 257, 1028), make([]int, 1028)...))
	checkNoWave(t, "513 samples in two channels", append(waveHead(2, 16, 257, 1026), make([]int, 1026)...))
	checkNoWave(t, "512 samples in one channel", append(waveHead(1, 16, 257, 1024), make([]int, 1024)...))
	for _, size := range []int{2030, 2032, 2034, 65536, 70000} {
		for channels := 1; channels <= 2; channels++ {
			checkNoWave(t, "many samples", append(waveHead(channels, 16, 257, size), make([]int, size)...))
		}
	}
}

func TestWavesOfEveryDepth(t *testing.T) {
	for depth := 4; depth <= 16; depth++ {
		low, top := -1<<(depth-1), 1<<(depth-1)-1
		for _, list := range [][]int{{low}, {top}, {low + 1, top - 1}, {0, low, -1, top}} {
			checkWave(t, audioOf(depth, list), append(waveHead(1, depth, 8000, 2*len(list)), waveBody(list...)...))
			both := audioOf(depth, list, backward(audioOf(depth, list)).Channels[0])
			checkWave(t, both, slowWave(both))
		}
		if depth == 16 {
			continue
		}
		for _, n := range []int{low - 1, top + 1, -32768, 32767} {
			checkNoWave(t, "a sample beside its range", append(waveHead(1, depth, 8000, 2), waveBody(n)...))
			checkNoWave(t, "a last sample beside its range", append(waveHead(2, depth, 8000, 8), waveBody(0, top, low, n)...))
		}
	}
	for _, depth := range []int{0, 1, 2, 3, 17, 18, 32, 260, 264, 32768, 65535} {
		checkNoWave(t, "another depth", append(waveHead(1, depth, 8000, 2), waveBody(0)...))
		checkNoWave(t, "another depth without samples", waveHead(2, depth, 8000, 0))
	}
}

func TestHeadsOfWaves(t *testing.T) {
	for _, rate := range []int{1, 2, 255, 256, 65535, 65536, 999998, 999999} {
		a := impl.Audio{Rate: rate, Depth: 5, Channels: [][]int{{1}, {-1}}}
		checkWave(t, a, append(waveHead(2, 5, rate, 4), waveBody(1, -1)...))
	}
	for _, rate := range []int{0, 1000000, 1 << 24, 1<<24 + 1, 1 << 31, 1<<32 - 1} {
		checkNoWave(t, "another rate", append(waveHead(1, 5, rate, 2), waveBody(1)...))
	}
	for _, channels := range []int{0, 3, 4, 256, 257, 258, 65535} {
		checkNoWave(t, "other channels", append(waveHead(channels, 5, 8000, 12), make([]int, 12)...))
		checkNoWave(t, "other channels without samples", waveHead(channels, 5, 8000, 0))
	}
	checkNoWave(t, "one sample of two channels", append(waveHead(2, 5, 8000, 2), waveBody(1)...))
	checkNoWave(t, "three samples of two channels", append(waveHead(2, 5, 8000, 6), waveBody(1, 2, 3)...))
	for _, size := range []int{0, 1, 2, 3, 5, 6, 8, 256 + 4, 1<<16 + 4, 1<<24 + 4, 1<<32 - 4, 1<<32 - 1} {
		checkNoWave(t, "another length", append(waveHead(1, 5, 8000, size), waveBody(1, 2)...))
		checkNoWave(t, "another length for two channels", append(waveHead(2, 5, 8000, size), waveBody(1, 2)...))
	}
	for size := range 8 {
		checkReading(t, append(waveHead(1, 5, 8000, size), make([]int, size)...))
		checkReading(t, append(waveHead(2, 5, 8000, size), make([]int, size)...))
	}
}

func TestWavesWithOneByteBeside(t *testing.T) {
	read := 0
	for _, a := range []impl.Audio{audioOf(8, nil), audioOf(4, nil, nil), audioOf(8, []int{1, -2}), audioOf(16, []int{1, -2}, []int{0, 300}), audioOf(4, []int{0})} {
		list := slowWave(a)
		for i := range list {
			for _, more := range []int{-1, 1, 128} {
				beside := slices.Clone(list)
				beside[i] = (list[i] + more + 256) % 256
				if i < 4 {
					checkNoWave(t, "a wrong letter", beside)
				}
				if checkReading(t, beside) {
					read++
				}
			}
		}
		for _, text := range []string{"wave", "WAVe", "EVAW", "RIFF"} {
			checkNoWave(t, text, append(bytesOfText(text), list[4:]...))
		}
	}
	if read < 40 {
		t.Errorf("only %d of the lists with one byte beside are waves", read)
	}
}

func TestWavesOfOtherLengths(t *testing.T) {
	checkNoWave(t, "no bytes", nil)
	checkNoWave(t, "no bytes", []int{})
	for _, a := range append(loudAudios(), audioOf(8, []int{0, 0}), audioOf(8, []int{0, 0}, []int{0, 0})) {
		list := slowWave(a)
		checkWave(t, a, list)
		for size := range min(len(list), 40) {
			checkNoWave(t, "the beginning of a wave", list[:size])
		}
		checkNoWave(t, "a wave without its last byte", list[:len(list)-1])
		checkNoWave(t, "a wave without its last two bytes", list[:len(list)-2])
		checkNoWave(t, "a wave without its first byte", list[1:])
		checkNoWave(t, "a wave behind a byte", append([]int{0}, list...))
		for _, more := range []int{1, 2, 3, 4} {
			checkNoWave(t, "a wave and more bytes", slices.Concat(list, make([]int, more)))
		}
		// The length is right again, but half a sample is left.
		if size := len(list) - 16; size < 256 {
			odd := slices.Concat(list, []int{0})
			odd[12]++
			checkNoWave(t, "a wave and half a sample", odd)
		}
	}
}

func TestWavesOfNumbersThatAreNoBytes(t *testing.T) {
	list := slowWave(audioOf(8, []int{1, -2}, []int{3, 0}))
	for name, bad := range invalidBytes() {
		checkNoWave(t, name, bad)
		checkNoWave(t, name+" behind a wave", slices.Concat(list, bad))
		checkNoWave(t, name+" behind a head", slices.Concat(list[:16], bad))
	}
	for i := range list {
		for _, n := range append([]int{list[i] + 256, list[i] - 256, -1, 256, list[i] + 1<<32}, farNumbers...) {
			bad := slices.Clone(list)
			bad[i] = n
			checkNoWave(t, "a wave with a number that is no byte", bad)
		}
	}
	// Numbers of several bytes whose sums would be right.
	for _, at := range []int{4, 6, 8, 9, 10, 12, 13, 14, 16, 18, 20, 22} {
		for _, more := range []int{-1, 1} {
			bad := slices.Clone(list)
			bad[at], bad[at+1] = bad[at]+256*more, bad[at+1]-more
			checkNoWave(t, "a number in the next byte", bad)
		}
	}
}

func TestWavesOfInvalidAudio(t *testing.T) {
	for name, a := range invalidAudios() {
		if list := impl.WriteWave(a); len(list) > 0 {
			t.Errorf("WriteWave of %s, %v, = %v", name, a, list)
		}
	}
}

func TestWavesTouchNothing(t *testing.T) {
	left, right := roomy([]int{1, -2, 3}), roomy([]int{-4, 5, -6})
	a := audioOf(4, left, right)
	list := impl.WriteWave(a)
	wanted := slices.Clone(list)
	checkUntouched(t, left, []int{1, -2, 3}, list)
	checkUntouched(t, right, []int{-4, 5, -6}, nil)
	bytes := roomy(wanted)
	b, ok := impl.ReadWave(bytes)
	if !ok || !sameAudio(a, b) {
		t.Fatalf("ReadWave(%v) = %v, %v", wanted, b, ok)
	}
	checkUntouched(t, bytes, wanted, b.Channels[0])
	if !slices.Equal(b.Channels[1], right) {
		t.Errorf("the second channel became %v", b.Channels[1])
	}
	checkUntouched(t, bytes, wanted, b.Channels[1])
	// One channel is in the same order as its bytes, but in other memory.
	bytes = roomy(slowWave(audioOf(4, []int{1, 2})))
	b, _ = impl.ReadWave(bytes)
	checkUntouched(t, bytes, slowWave(audioOf(4, []int{1, 2})), b.Channels[0])
	same := roomy([]int{5, 6})
	checkUntouched(t, same, []int{5, 6}, impl.WriteWave(audioOf(8, same, same)))
}

// someWave returns the bytes of a wave that is the same in every run.
func someWave(r *rand.Rand) (impl.Audio, []int) {
	a := someLevels(r, []int{6, 40, impl.MaxTotal}[r.Intn(3)])
	return a, impl.WriteWave(a)
}

func TestP108WavesCanBeRead(t *testing.T) {
	r := rand.New(rand.NewSource(108))
	for range 400 {
		a, list := someWave(r)
		if got, ok := impl.ReadWave(list); !ok || !sameAudio(got, a) {
			t.Errorf("ReadWave of WriteWave(%v) = %v, %v", a, got, ok)
		}
		if want := slowWave(a); !slices.Equal(list, want) {
			t.Errorf("WriteWave(%v) = %v instead of %v", a, list, want)
		}
	}
	for _, a := range loudAudios() {
		checkWave(t, a, slowWave(a))
	}
}

func TestP109WhatIsReadAsAWaveIsOne(t *testing.T) {
	r := rand.New(rand.NewSource(109))
	read, not := 0, 0
	for range 4000 {
		// Waves in which something may be different.
		_, list := someWave(r)
		switch r.Intn(7) {
		case 0:
			list[r.Intn(len(list))] = r.Intn(256)
		case 1:
			list[4+r.Intn(12)] ^= 1 << r.Intn(8)
		case 2:
			list = list[:r.Intn(len(list)+1)]
		case 3:
			list[4] = 3 - list[4]
		case 4:
			list[[]int{4, 6, 8, 12}[r.Intn(4)]] += r.Intn(3) - 1
		case 5:
			list[6] = 4 + r.Intn(13)
		}
		want, should := slowReadWave(list)
		a, ok := impl.ReadWave(list)
		if ok != should || !sameAudio(a, want) {
			t.Errorf("ReadWave(%v) = %v, %v instead of %v, %v", list, a, ok, want, should)
		}
		if !ok {
			not++
			continue
		}
		read++
		if again := impl.WriteWave(a); !slices.Equal(again, list) {
			t.Errorf("WriteWave of what is read from %v = %v", list, again)
		}
	}
	if read < 1500 || not < 1000 {
		t.Errorf("%d waves were read, and %d were not", read, not)
	}
}

func TestP110BothFormsHaveTheSameAudio(t *testing.T) {
	r := rand.New(rand.NewSource(110))
	streams := 0
	for range 200 {
		a, ok := impl.ReadWave(slowWave(someLevels(r, 60)))
		if !ok {
			t.Fatal("ReadWave fails")
		}
		for _, block := range []int{1 + r.Intn(8), 1 + r.Intn(impl.MaxBlock), impl.MaxBlock} {
			if list, ok := impl.EncodeStream(a, block); ok {
				streams++
				checkStream(t, "the audio of a wave", list, a, block)
			}
		}
	}
	if streams < 500 {
		t.Errorf("only %d waves are streams", streams)
	}
}

func TestRatesOfWavesAreNotNegative(t *testing.T) {
	// The highest bit of four bytes is no sign.
	for _, rate := range []int{math.MaxInt32, math.MaxInt32 + 1, math.MaxUint32 - 999998} {
		checkNoWave(t, "a rate with the highest bit", append(waveHead(1, 8, rate, 2), waveBody(1)...))
	}
}
