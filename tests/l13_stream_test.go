package tests

import (
	"math/rand"
	"slices"
	"testing"

	"loop.example/losslessaudio/impl"
)

// sameAudio reports whether audio is the same; nil and empty slices are.
func sameAudio(a impl.Audio, b impl.Audio) bool {
	return a.Rate == b.Rate && a.Depth == b.Depth && slices.EqualFunc(a.Channels, b.Channels, slices.Equal[[]int])
}

// cloneAudio returns audio with memory of its own.
func cloneAudio(a impl.Audio) impl.Audio {
	b := impl.Audio{Rate: a.Rate, Depth: a.Depth}
	for _, list := range a.Channels {
		b.Channels = append(b.Channels, slices.Clone(list))
	}
	return b
}

// headBytes returns the first bytes of a stream by their definition.
func headBytes(a impl.Audio, block int) []int {
	total := len(a.Channels[0])
	return []int{108, 115, 97, len(a.Channels), a.Depth, block, a.Rate / 65536, a.Rate / 256 % 256, a.Rate % 256, total / 256, total % 256}
}

// frameCount returns the number of frames of block samples.
func frameCount(a impl.Audio, block int) int {
	count := 0
	for count*block < len(a.Channels[0]) {
		count++
	}
	return count
}

// frameAt returns the frame of a stream with a number.
func frameAt(a impl.Audio, block int, number int) impl.Frame {
	f := impl.Frame{Number: number, Depth: a.Depth}
	for _, list := range a.Channels {
		rest := list[number*block:]
		f.Channels = append(f.Channels, slices.Clone(rest[:min(block, len(rest))]))
	}
	return f
}

// frameParts returns the bytes of all frames of a stream by their definition.
func frameParts(a impl.Audio, block int) [][]int {
	parts := [][]int{}
	for number := range frameCount(a, block) {
		parts = append(parts, slowFrame(frameAt(a, block, number)))
	}
	return parts
}

// slowStream returns the bytes of a stream by their definition, of which there may be more than MaxBytes.
func slowStream(a impl.Audio, block int) []int {
	return append(headBytes(a, block), slices.Concat(frameParts(a, block)...)...)
}

// slowDecode returns the audio and the block of a stream by looking at all that the definition of a stream says.
func slowDecode(list []int) (impl.Audio, int, bool) {
	if len(list) < 11 || len(list) > 2048 || slices.Min(list) < 0 || slices.Max(list) > 255 || list[0] != 108 || list[1] != 115 || list[2] != 97 {
		return impl.Audio{}, 0, false
	}
	channels, block, total := list[3], list[5], 256*list[9]+list[10]
	a := impl.Audio{Rate: 65536*list[6] + 256*list[7] + list[8], Depth: list[4]}
	if channels < 1 || channels > 2 || a.Depth < 4 || a.Depth > 16 || block < 1 || block > 64 || a.Rate < 1 || a.Rate > 999999 || total > 256 {
		return impl.Audio{}, 0, false
	}
	a.Channels = make([][]int, channels)
	at := 11
	for number := 0; number*block < total; number++ {
		f, next, ok := impl.DecodeFrame(list, at)
		if !ok || f.Number != number || f.Depth != a.Depth || len(f.Channels) != channels || len(f.Channels[0]) != min(block, total-number*block) {
			return impl.Audio{}, 0, false
		}
		for i := range a.Channels {
			a.Channels[i] = append(a.Channels[i], f.Channels[i]...)
		}
		at = next
	}
	if at != len(list) {
		return impl.Audio{}, 0, false
	}
	return a, block, true
}

// someLine returns count samples of a depth that are the same in every run.
func someLine(r *rand.Rand, count int, depth int) []int {
	list := []int{}
	for len(list) < count {
		list = append(list, someBlock(r, depth)...)
	}
	return list[:count]
}

// someAudioOf returns valid audio with a number of samples that is the same in every run, with channels that are often similar.
func someAudioOf(r *rand.Rand, total int) impl.Audio {
	a := impl.Audio{Rate: 1 + r.Intn(impl.MaxRate), Depth: impl.MinWidth + r.Intn(impl.MaxDepth-impl.MinWidth+1)}
	left := someLine(r, total, a.Depth)
	a.Channels = [][]int{left}
	switch r.Intn(4) {
	case 0:
		a.Channels = append(a.Channels, someLine(r, total, a.Depth))
	case 1:
		right := slices.Clone(left)
		for i := range right {
			right[i] += r.Intn(3) - 1
		}
		a.Channels = append(a.Channels, inWidth(right, a.Depth))
	}
	return a
}

// noisyAudio returns valid audio of which a stream is long; it is the same in every run.
func noisyAudio(r *rand.Rand, total int) impl.Audio {
	a := impl.Audio{Rate: 1 + r.Intn(impl.MaxRate), Depth: 8 + r.Intn(9)}
	for range 1 + r.Intn(2) {
		a.Channels = append(a.Channels, inWidth(smallNumbers(r, total, 1<<(a.Depth-1)), a.Depth))
	}
	return a
}

// someStream returns valid audio, a block for which it is a stream, and the stream; all are the same in every run.
func someStream(r *rand.Rand) (impl.Audio, int, []int) {
	if r.Intn(4) == 0 {
		return someStreamUpTo(r, impl.MaxTotal)
	}
	return someStreamUpTo(r, 40)
}

// someStreamUpTo returns the same for at most as many samples.
func someStreamUpTo(r *rand.Rand, most int) (impl.Audio, int, []int) {
	for {
		total := r.Intn(most + 1)
		a, block := someAudioOf(r, total), 1+r.Intn(impl.MaxBlock)
		if r.Intn(2) == 0 {
			block = 1 + r.Intn(9)
		}
		if list, ok := impl.EncodeStream(a, block); ok {
			return a, block, list
		}
	}
}

// invalidAudios are all kinds of audio that are not valid.
func invalidAudios() map[string]impl.Audio {
	one := [][]int{{1, 2, 3}}
	long := make([]int, impl.MaxTotal+1)
	all := map[string]impl.Audio{
		"nothing":                         {},
		"no channels":                     {Rate: 8000, Depth: 8},
		"an empty list of channels":       {Rate: 8000, Depth: 8, Channels: [][]int{}},
		"three channels":                  {Rate: 8000, Depth: 8, Channels: [][]int{{1}, {1}, {1}}},
		"three channels without samples":  {Rate: 8000, Depth: 8, Channels: make([][]int, 3)},
		"a shorter second channel":        {Rate: 8000, Depth: 8, Channels: [][]int{{1, 2, 3}, {1, 2}}},
		"a longer second channel":         {Rate: 8000, Depth: 8, Channels: [][]int{{1, 2}, {1, 2, 3}}},
		"an empty second channel":         {Rate: 8000, Depth: 8, Channels: [][]int{{1}, {}}},
		"an empty first channel":          {Rate: 8000, Depth: 8, Channels: [][]int{nil, {1}}},
		"one sample more than MaxTotal":   {Rate: 8000, Depth: 8, Channels: [][]int{long}},
		"one more in two channels":        {Rate: 8000, Depth: 8, Channels: [][]int{long, long}},
		"one more in the second channel":  {Rate: 8000, Depth: 8, Channels: [][]int{long[1:], long}},
		"a rate of 0":                     {Depth: 8, Channels: one},
		"a negative rate":                 {Rate: -1, Depth: 8, Channels: one},
		"one more than MaxRate":           {Rate: impl.MaxRate + 1, Depth: 8, Channels: one},
		"a rate of 0 without samples":     {Depth: 8, Channels: make([][]int, 1)},
		"a depth of 0":                    {Rate: 8000, Channels: [][]int{{0}}},
		"a depth of 0 without samples":    {Rate: 8000, Channels: make([][]int, 1)},
		"one less than MinWidth":          {Rate: 8000, Depth: impl.MinWidth - 1, Channels: [][]int{{0}}},
		"one more than MaxDepth":          {Rate: 8000, Depth: impl.MaxDepth + 1, Channels: [][]int{{0}}},
		"a depth of 17 without samples":   {Rate: 8000, Depth: 17, Channels: make([][]int, 2)},
		"a depth of 64":                   {Rate: 8000, Depth: 64, Channels: [][]int{{0}}},
		"a depth of 65":                   {Rate: 8000, Depth: 65, Channels: [][]int{{0}}},
		"a negative depth":                {Rate: 8000, Depth: -8, Channels: [][]int{{0}}},
		"a second channel that is louder": {Rate: 8000, Depth: 8, Channels: [][]int{{0, 0}, {0, 128}}},
		"a last sample that is too small": {Rate: 8000, Depth: 8, Channels: [][]int{append(make([]int, 255), -129)}},
	}
	for depth := impl.MinWidth; depth <= impl.MaxDepth; depth++ {
		name := string(rune('a' + depth))
		all["one more than the depth allows "+name] = impl.Audio{Rate: 1, Depth: depth, Channels: [][]int{{0, 1 << (depth - 1)}}}
		all["one less than the depth allows "+name] = impl.Audio{Rate: 1, Depth: depth, Channels: [][]int{{-1<<(depth-1) - 1, 0}}}
		all["one more on the right "+name] = impl.Audio{Rate: 1, Depth: depth, Channels: [][]int{{0, 0}, {0, 1 << (depth - 1)}}}
		all["one less on the right "+name] = impl.Audio{Rate: 1, Depth: depth, Channels: [][]int{{0, 0}, {-1<<(depth-1) - 1, 0}}}
	}
	for i, n := range farNumbers {
		name := string(rune('a' + i))
		all["a far rate "+name] = impl.Audio{Rate: n, Depth: 8, Channels: one}
		all["a far depth "+name] = impl.Audio{Rate: 1, Depth: n, Channels: one}
		all["a far sample "+name] = impl.Audio{Rate: 1, Depth: 16, Channels: [][]int{{0, n}}}
		all["a far sample on the right "+name] = impl.Audio{Rate: 1, Depth: 16, Channels: [][]int{{0}, {n}}}
	}
	return all
}

// loudAudios are valid audios at the limits of what is valid.
func loudAudios() []impl.Audio {
	all := []impl.Audio{
		{Rate: 1, Depth: 4, Channels: [][]int{{}}},
		{Rate: impl.MaxRate, Depth: 16, Channels: [][]int{nil, nil}},
		{Rate: impl.MaxRate, Depth: 16, Channels: [][]int{nil, {}}},
		{Rate: 65536, Depth: 16, Channels: [][]int{{0}, {1}}},
		{Rate: 65535, Depth: 16, Channels: [][]int{make([]int, impl.MaxTotal)}},
		{Rate: 256, Depth: 5, Channels: [][]int{make([]int, impl.MaxTotal), make([]int, impl.MaxTotal)}},
		{Rate: 255, Depth: 5, Channels: [][]int{make([]int, impl.MaxTotal-1), make([]int, impl.MaxTotal-1)}},
	}
	for depth := impl.MinWidth; depth <= impl.MaxDepth; depth++ {
		low, top := -1<<(depth-1), 1<<(depth-1)-1
		all = append(all,
			impl.Audio{Rate: depth, Depth: depth, Channels: [][]int{{low, top}}},
			impl.Audio{Rate: depth, Depth: depth, Channels: [][]int{{low, top, low, top, 0}, {top, low, low, top, low}}},
		)
	}
	return all
}

// checkStream fails if bytes are not the stream of some audio and a block.
func checkStream(t *testing.T, what string, list []int, a impl.Audio, block int) {
	t.Helper()
	if got, n, ok := impl.DecodeStream(list); !ok || n != block || !sameAudio(got, a) {
		t.Errorf("DecodeStream of %s, %v, = %v, %d, %v instead of %v, %d", what, list, got, n, ok, a, block)
	}
}

// checkNoStream fails if DecodeStream accepts bytes.
func checkNoStream(t *testing.T, what string, list []int) {
	t.Helper()
	if got, n, ok := impl.DecodeStream(list); ok || n != 0 || !sameAudio(got, impl.Audio{}) {
		t.Errorf("DecodeStream of %s, %v, = %v, %d, %v", what, list, got, n, ok)
	}
}

// checkNoEncoding fails if there is a stream of some audio and a block.
func checkNoEncoding(t *testing.T, what string, a impl.Audio, block int) {
	t.Helper()
	if list, ok := impl.EncodeStream(a, block); ok || len(list) > 0 {
		t.Errorf("EncodeStream of %s with %d = %v, %v", what, block, list, ok)
	}
}

func TestLimitsOfStreams(t *testing.T) {
	if impl.MaxRate != 999999 || impl.MaxTotal != 256 || impl.HeadBytes != 11 {
		t.Error("a limit is wrong")
	}
}

func TestValidAudioExamples(t *testing.T) {
	for _, a := range loudAudios() {
		if !impl.ValidAudio(a) {
			t.Errorf("ValidAudio(%v) is false", a)
		}
	}
	for name, a := range invalidAudios() {
		if impl.ValidAudio(a) {
			t.Errorf("audio with %s is valid", name)
		}
	}
}

func TestEncodeStreamExamples(t *testing.T) {
	zero := sealed([]int{255, 248, 8, 63, 0}, without("0000000 0 00000000"))
	for _, c := range []struct {
		a     impl.Audio
		block int
		want  [][]int
	}{
		{impl.Audio{Rate: 8000, Depth: 8, Channels: [][]int{{5, 5, 5, 7}}}, 3, [][]int{
			{108, 115, 97, 1, 8, 3, 0, 31, 64, 0, 4},
			sealed([]int{255, 248, 8, 2, 0}, without("0000000 0 00000101")), sealed([]int{255, 248, 8, 0, 1}, without("0000000 0 00000111")),
		}},
		{impl.Audio{Rate: impl.MaxRate, Depth: 16, Channels: [][]int{{-1}, {-2}}}, 64, [][]int{
			{108, 115, 97, 2, 16, 64, 15, 66, 63, 0, 1}, sealed([]int{255, 249, 16, 0, 0}, without("0000000 0 1111111111111111 0000000 11 111111111111111")),
		}},
		{impl.Audio{Rate: 1, Depth: 4, Channels: [][]int{{1, 2}}}, 1, [][]int{
			{108, 115, 97, 1, 4, 1, 0, 0, 1, 0, 2}, sealed([]int{255, 248, 4, 0, 0}, without("0000000 0 0001")), sealed([]int{255, 248, 4, 0, 1}, without("0000000 11 001")),
		}},
		{impl.Audio{Rate: 65536, Depth: 8, Channels: [][]int{make([]int, 64)}}, 64, [][]int{{108, 115, 97, 1, 8, 64, 1, 0, 0, 0, 64}, zero}},
		{impl.Audio{Rate: 65791, Depth: 8, Channels: [][]int{make([]int, 256)}}, 64, [][]int{
			{108, 115, 97, 1, 8, 64, 1, 0, 255, 1, 0}, zero, sealed([]int{255, 248, 8, 63, 1}, "0000000000000000"),
			sealed([]int{255, 248, 8, 63, 2}, "0000000000000000"), sealed([]int{255, 248, 8, 63, 3}, "0000000000000000"),
		}},
		{impl.Audio{Rate: 256, Depth: 8, Channels: [][]int{make([]int, 65)}}, 64, [][]int{
			{108, 115, 97, 1, 8, 64, 0, 1, 0, 0, 65}, zero, sealed([]int{255, 248, 8, 0, 1}, "0000000000000000"),
		}},
		// Without samples there are no frames.
		{impl.Audio{Rate: 1, Depth: 4, Channels: [][]int{nil}}, 1, [][]int{{108, 115, 97, 1, 4, 1, 0, 0, 1, 0, 0}}},
		{impl.Audio{Rate: 999, Depth: 16, Channels: [][]int{{}, {}}}, 64, [][]int{{108, 115, 97, 2, 16, 64, 0, 3, 231, 0, 0}}},
	} {
		want := slices.Concat(c.want...)
		if got, ok := impl.EncodeStream(c.a, c.block); !ok || !slices.Equal(got, want) {
			t.Errorf("EncodeStream(%v, %d) = %v, %v instead of %v", c.a, c.block, got, ok, want)
		}
		checkStream(t, "an example", want, c.a, c.block)
	}
}

func TestEncodeStreamFollowsItsDefinition(t *testing.T) {
	r := rand.New(rand.NewSource(1))
	audios := loudAudios()
	for range 150 {
		audios = append(audios, someAudioOf(r, r.Intn(20)), someAudioOf(r, r.Intn(120)))
	}
	for range 15 {
		audios = append(audios, noisyAudio(r, impl.MaxTotal-r.Intn(30)))
	}
	short, many, whole := 0, 0, 0
	for _, a := range audios {
		block := 1 + r.Intn(impl.MaxBlock)
		if r.Intn(2) == 0 {
			block = 1 + r.Intn(8)
		}
		if len(a.Channels[0]) > 200 {
			block = 1 + r.Intn(2)
		}
		want := slowStream(a, block)
		if len(want) > impl.MaxBytes {
			many++
			checkNoEncoding(t, "long audio", a, block)
			checkNoStream(t, "a long stream", want)
			continue
		}
		if len(a.Channels[0])%block > 0 {
			short++
		} else {
			whole++
		}
		if got, ok := impl.EncodeStream(a, block); !ok || !slices.Equal(got, want) {
			t.Errorf("EncodeStream(%v, %d) = %v, %v instead of %v", a, block, got, ok, want)
		}
		checkStream(t, "a stream", want, a, block)
	}
	if short < 50 || many < 10 || whole < 20 {
		t.Errorf("%d streams have a shorter last frame, %d have not, and %d are too long", short, whole, many)
	}
}

func TestEncodeStreamOfInvalidArguments(t *testing.T) {
	for name, a := range invalidAudios() {
		for _, block := range []int{0, 1, 3, impl.MaxBlock} {
			checkNoEncoding(t, name, a, block)
		}
	}
	for _, a := range loudAudios() {
		for _, block := range append([]int{-64, -1, 0, impl.MaxBlock + 1, 256}, farNumbers...) {
			checkNoEncoding(t, "valid audio", a, block)
		}
		for _, block := range []int{impl.MaxBlock - 1, impl.MaxBlock} {
			if list, ok := impl.EncodeStream(a, block); !ok || !slices.Equal(list, slowStream(a, block)) {
				t.Errorf("EncodeStream(%v, %d) = %v, %v", a, block, list, ok)
			}
		}
	}
}

// audiosOfSize returns audios with a block for which all frames and the first bytes have as many bytes as wanted.
func audiosOfSize(t *testing.T, r *rand.Rand, size int, count int) ([]impl.Audio, []int) {
	t.Helper()
	audios, blocks := []impl.Audio{}, []int{}
	for range 2000 {
		a, block := noisyAudio(r, impl.MaxTotal), 1+r.Intn(4)
		length := impl.HeadBytes
		for number := 0; number < frameCount(a, block) && length < size; number++ {
			part, _ := impl.EncodeFrame(frameAt(a, block, number))
			length += len(part)
			if length == size {
				for i := range a.Channels {
					a.Channels[i] = a.Channels[i][:min((number+1)*block, impl.MaxTotal)]
				}
				audios, blocks = append(audios, a), append(blocks, block)
			}
		}
		if len(audios) == count {
			return audios, blocks
		}
	}
	t.Fatalf("only %d streams have %d bytes", len(audios), size)
	return nil, nil
}

func TestStreamsUpToMaxBytes(t *testing.T) {
	r := rand.New(rand.NewSource(2))
	for size := impl.MaxBytes - 2; size <= impl.MaxBytes+2; size++ {
		audios, blocks := audiosOfSize(t, r, size, 2)
		for i, a := range audios {
			want := slowStream(a, blocks[i])
			if len(want) != size {
				t.Fatalf("a stream has %d bytes instead of %d", len(want), size)
			}
			if size > impl.MaxBytes {
				checkNoEncoding(t, "audio with too many bytes", a, blocks[i])
				checkNoStream(t, "a stream with too many bytes", want)
				continue
			}
			if got, ok := impl.EncodeStream(a, blocks[i]); !ok || !slices.Equal(got, want) {
				t.Errorf("EncodeStream(%v, %d) = %v, %v instead of %v", a, blocks[i], got, ok, want)
			}
			checkStream(t, "a stream of many bytes", want, a, blocks[i])
			checkNoStream(t, "a stream and one byte", append(slices.Clone(want), 0))
			checkNoStream(t, "a stream without its last byte", want[:size-1])
		}
	}
}

func TestStreamsWithoutSamples(t *testing.T) {
	for channels := 1; channels <= 2; channels++ {
		for depth := impl.MinWidth; depth <= impl.MaxDepth; depth++ {
			for block := 1; block <= impl.MaxBlock; block++ {
				a := impl.Audio{Rate: 1 + 9999*block, Depth: depth, Channels: make([][]int, channels)}
				list, ok := impl.EncodeStream(a, block)
				if !ok || len(list) != impl.HeadBytes || !slices.Equal(list, headBytes(a, block)) {
					t.Errorf("EncodeStream(%v, %d) = %v, %v", a, block, list, ok)
				}
				checkStream(t, "a stream without samples", list, a, block)
				checkNoStream(t, "less than a stream without samples", list[:10])
				frame := slowFrame(impl.Frame{Depth: depth, Channels: slices.Repeat([][]int{{0}}, channels)})
				checkNoStream(t, "a frame without samples", slices.Concat(list, frame))
			}
		}
	}
}

func TestDecodeStreamOfPartsAndMore(t *testing.T) {
	r := rand.New(rand.NewSource(3))
	for range 60 {
		a, block, list := someStreamUpTo(r, 30)
		checkStream(t, "a stream", list, a, block)
		for size := range list {
			checkNoStream(t, "a part of a stream", list[:size])
		}
		for _, more := range [][]int{{0}, {255}, {10}, {0, 0, 0, 0}, list[:1], list} {
			checkNoStream(t, "a stream with more behind it", slices.Concat(list, more))
			checkNoStream(t, "a stream with more before it", slices.Concat(more, list))
		}
		parts := frameParts(a, block)
		for i, part := range parts {
			checkNoStream(t, "a stream with a frame behind it", slices.Concat(list, part))
			checkNoStream(t, "a stream without a frame", slices.Concat(list[:11], slices.Concat(parts[:i]...), slices.Concat(parts[i+1:]...)))
			checkNoStream(t, "only the frames from one on", slices.Concat(list[:11], slices.Concat(parts[i+1:]...)))
			checkNoStream(t, "only the frames before one", slices.Concat(list[:11], slices.Concat(parts[:i]...)))
			checkNoStream(t, "a frame that is there twice", slices.Concat(list[:11], slices.Concat(parts[:i+1]...), slices.Concat(parts[i:]...)))
			checkNoStream(t, "a gap before a frame", slices.Concat(list[:11], slices.Concat(parts[:i]...), []int{0}, slices.Concat(parts[i:]...)))
			checkNoStream(t, "frames without the first bytes", slices.Concat(parts[i:]...))
			if i > 0 {
				other := slices.Clone(parts)
				other[i], other[i-1] = parts[i-1], parts[i]
				checkNoStream(t, "exchanged frames", slices.Concat(list[:11], slices.Concat(other...)))
			}
		}
		next := slowFrame(impl.Frame{Number: len(parts), Depth: a.Depth, Channels: slices.Repeat([][]int{{1}}, len(a.Channels))})
		checkNoStream(t, "a stream with one frame more", slices.Concat(list, next))
	}
}

func TestDecodeStreamOfOtherHeads(t *testing.T) {
	r := rand.New(rand.NewSource(4))
	streams := [][]int{headBytes(impl.Audio{Rate: 8000, Depth: 8, Channels: [][]int{{}}}, 5)}
	three, _ := impl.EncodeStream(impl.Audio{Rate: 8000, Depth: 8, Channels: [][]int{{1, 2, 4}}}, 5)
	streams = append(streams, three)
	for range 12 {
		_, _, list := someStreamUpTo(r, 60)
		streams = append(streams, list)
	}
	accepted, rejected := 0, 0
	for _, list := range streams {
		for i := range impl.HeadBytes {
			for n := range 256 {
				bad := slices.Clone(list)
				bad[i] = n
				a, block, ok := slowDecode(bad)
				if ok {
					accepted++
					checkStream(t, "another head", bad, a, block)
				} else {
					rejected++
					checkNoStream(t, "another head", bad)
				}
			}
		}
	}
	if accepted < 1000 || rejected < 10000 {
		t.Errorf("%d heads are accepted, and %d are not", accepted, rejected)
	}
}

func TestDecodeStreamAtTheLimitsOfHeads(t *testing.T) {
	for _, c := range []struct {
		list []int
		ok   bool
	}{
		{[]int{108, 115, 97, 1, 4, 1, 0, 0, 1, 0, 0}, true}, {[]int{108, 115, 97, 2, 16, 64, 15, 66, 63, 0, 0}, true},
		{[]int{107, 115, 97, 1, 4, 1, 0, 0, 1, 0, 0}, false}, {[]int{108, 116, 97, 1, 4, 1, 0, 0, 1, 0, 0}, false}, {[]int{108, 115, 65, 1, 4, 1, 0, 0, 1, 0, 0}, false},
		{[]int{108, 115, 97, 0, 4, 1, 0, 0, 1, 0, 0}, false}, {[]int{108, 115, 97, 3, 4, 1, 0, 0, 1, 0, 0}, false},
		{[]int{108, 115, 97, 1, 3, 1, 0, 0, 1, 0, 0}, false}, {[]int{108, 115, 97, 1, 17, 1, 0, 0, 1, 0, 0}, false},
		{[]int{108, 115, 97, 1, 4, 0, 0, 0, 1, 0, 0}, false}, {[]int{108, 115, 97, 1, 4, 65, 0, 0, 1, 0, 0}, false},
		{[]int{108, 115, 97, 1, 4, 1, 0, 0, 0, 0, 0}, false}, {[]int{108, 115, 97, 1, 4, 1, 15, 66, 64, 0, 0}, false},
		{[]int{108, 115, 97, 1, 4, 1, 15, 67, 0, 0, 0}, false}, {[]int{108, 115, 97, 1, 4, 1, 16, 0, 0, 0, 0}, false},
		{[]int{108, 115, 97, 1, 4, 1, 0, 0, 1, 0, 1}, false}, {[]int{108, 115, 97, 1, 4, 1, 0, 0, 1, 1, 0}, false},
	} {
		a, block, ok := slowDecode(c.list)
		if ok != c.ok {
			t.Errorf("%v is a stream: %v", c.list, ok)
		}
		if ok {
			checkStream(t, "only a head", c.list, a, block)
		} else {
			checkNoStream(t, "only a head", c.list)
		}
	}
	// One sample more than MaxTotal, although all frames are there.
	for total := impl.MaxTotal - 1; total <= impl.MaxTotal+3; total++ {
		a := impl.Audio{Rate: 8000, Depth: 8, Channels: [][]int{make([]int, total)}}
		list := slowStream(a, impl.MaxBlock)
		if total > impl.MaxTotal {
			checkNoStream(t, "too many samples", list)
			checkNoEncoding(t, "too many samples", a, impl.MaxBlock)
		} else {
			checkStream(t, "many samples", list, a, impl.MaxBlock)
		}
	}
	// A block of one sample more than a frame can have, if all frames are shorter.
	a := impl.Audio{Rate: 8000, Depth: 8, Channels: [][]int{{1, 2, 3}}}
	checkStream(t, "a block that is not filled", slowStream(a, impl.MaxBlock), a, impl.MaxBlock)
	checkNoStream(t, "a block that is too great", slowStream(a, impl.MaxBlock+1))
}

func TestDecodeStreamOfOtherFrames(t *testing.T) {
	r := rand.New(rand.NewSource(5))
	for range 60 {
		a, block, list := someStreamUpTo(r, 60)
		head, parts := list[:impl.HeadBytes], frameParts(a, block)
		for i := range parts {
			f := frameAt(a, block, i)
			others := []impl.Frame{}
			for _, number := range []int{i - 1, i + 1, i + 128, impl.MaxNumber, 0, len(parts)} {
				if number >= 0 && number != i {
					others = append(others, impl.Frame{Number: number, Depth: f.Depth, Channels: f.Channels})
				}
			}
			if f.Depth < impl.MaxDepth {
				others = append(others, impl.Frame{Number: i, Depth: f.Depth + 1, Channels: f.Channels})
			}
			others = append(others, impl.Frame{Number: i, Depth: f.Depth, Channels: slices.Repeat(f.Channels[:1], 3-len(f.Channels))})
			if size := len(f.Channels[0]); size > 1 {
				less := impl.Frame{Number: i, Depth: f.Depth}
				for _, channel := range f.Channels {
					less.Channels = append(less.Channels, channel[:size-1])
				}
				others = append(others, less)
			}
			if len(f.Channels[0]) < impl.MaxBlock {
				more := impl.Frame{Number: i, Depth: f.Depth}
				for _, channel := range f.Channels {
					more.Channels = append(more.Channels, append(slices.Clone(channel), 0))
				}
				others = append(others, more)
			}
			for _, g := range others {
				checkNoStream(t, "another frame", slices.Concat(head, slices.Concat(parts[:i]...), slowFrame(g), slices.Concat(parts[i+1:]...)))
			}
			// The same samples with a mode or a subframe that EncodeFrame does not choose.
			for mode := range 4 {
				form := frameOfMode(f, mode)
				if len(f.Channels) == 2 && !slices.Equal(form, parts[i]) {
					checkNoStream(t, "another mode", slices.Concat(head, slices.Concat(parts[:i]...), form, slices.Concat(parts[i+1:]...)))
				}
			}
		}
	}
}

func TestDecodeStreamOfOtherDivisions(t *testing.T) {
	// Five samples in frames of 3 and 2 are a stream, but not of 2 and 3, or of 5, or with a frame of one sample.
	list := []int{9, -8, 7, 3, 1}
	frame := func(number int, from int, to int) []int {
		return slowFrame(impl.Frame{Number: number, Depth: 8, Channels: [][]int{list[from:to]}})
	}
	a := impl.Audio{Rate: 8000, Depth: 8, Channels: [][]int{list}}
	checkStream(t, "frames of 3 and 2", slices.Concat(headBytes(a, 3), frame(0, 0, 3), frame(1, 3, 5)), a, 3)
	checkNoStream(t, "frames of 2 and 3", slices.Concat(headBytes(a, 3), frame(0, 0, 2), frame(1, 2, 5)))
	checkNoStream(t, "frames of 3, 1 and 1", slices.Concat(headBytes(a, 3), frame(0, 0, 3), frame(1, 3, 4), frame(2, 4, 5)))
	checkNoStream(t, "a frame of 5", slices.Concat(headBytes(a, 3), frame(0, 0, 5)))
	checkStream(t, "a frame of 5", slices.Concat(headBytes(a, 5), frame(0, 0, 5)), a, 5)
	checkStream(t, "a frame of 5 in a block of 6", slices.Concat(headBytes(a, 6), frame(0, 0, 5)), a, 6)
	checkNoStream(t, "a frame of 5 in a block of 4", slices.Concat(headBytes(a, 4), frame(0, 0, 5)))
	checkNoStream(t, "frames of 3 and 2 in a block of 2", slices.Concat(headBytes(a, 2), frame(0, 0, 3), frame(1, 3, 5)))
	checkNoStream(t, "frames from 1 on", slices.Concat(headBytes(a, 3), frame(1, 0, 3), frame(2, 3, 5)))
	more := impl.Audio{Rate: 8000, Depth: 8, Channels: [][]int{append(slices.Clone(list), 0)}}
	checkNoStream(t, "a last frame that is too short", slices.Concat(headBytes(more, 3), frame(0, 0, 3), frame(1, 3, 5)))
	checkNoStream(t, "a silent frame that is missing", slices.Concat(headBytes(impl.Audio{Rate: 8000, Depth: 8, Channels: [][]int{{9, -8, 7, 0, 0}}}, 3), frame(0, 0, 3)))
}

func TestDecodeStreamOfInvalidArguments(t *testing.T) {
	checkNoStream(t, "an empty list", nil)
	r := rand.New(rand.NewSource(6))
	a := someAudioOf(r, 7)
	list, _ := impl.EncodeStream(a, 3)
	for name, bad := range invalidBytes() {
		checkNoStream(t, name, bad)
		checkNoStream(t, name+" behind a stream", slices.Concat(list, bad))
		checkNoStream(t, name+" behind a head", slices.Concat(headBytes(impl.Audio{Rate: 1, Depth: 4, Channels: [][]int{nil}}, 1), bad))
	}
	for i := range list {
		for _, n := range append([]int{list[i] + 256, list[i] - 256, -1, 256}, farNumbers...) {
			bad := slices.Clone(list)
			bad[i] = n
			checkNoStream(t, "a stream with a number that is no byte", bad)
		}
	}
	// Numbers of several bytes whose sums would be right.
	for _, bad := range [][]int{
		{108, 115, 97, 1, 4, 1, 0, 0, 257, 0, 0}, {108, 115, 97, 1, 4, 1, 1, -1, 1, 0, 0}, {108, 115, 97, 1, 4, 1, 0, 1, -255, 0, 0}, {108, 115, 97, 1, 4, 1, 0, 0, 1, 1, -256}, {108, 115, 97, 1, 4, 1, 0, 0, 1, -1, 256},
	} {
		checkNoStream(t, "numbers that are no bytes", bad)
	}
	checkStream(t, "a stream", list, a, 3)
}

func TestStreamsTouchNothing(t *testing.T) {
	left, right := []int{3, -1, 7, 4, 5}, []int{-8, 7, -8, 7, 0}
	channels := [][]int{roomy(left), roomy(right), {77}}[:2]
	for _, block := range []int{1, 2, 5, 64} {
		a := impl.Audio{Rate: 8000, Depth: 4, Channels: channels}
		list, ok := impl.EncodeStream(a, block)
		if !ok || !impl.ValidAudio(a) {
			t.Fatal("EncodeStream fails")
		}
		wanted := slices.Clone(list)
		checkUntouched(t, channels[0], left, list)
		checkUntouched(t, channels[1], right, list)
		if len(channels[:3][2]) != 1 || channels[:3][2][0] != 77 {
			t.Error("the spare capacity of the channels was written")
		}
		bytes := roomy(wanted)
		b, _, ok := impl.DecodeStream(bytes)
		if !ok || !sameAudio(a, b) {
			t.Errorf("DecodeStream = %v, %v", b, ok)
		}
		checkUntouched(t, bytes, wanted, b.Channels[0])
		if !slices.Equal(b.Channels[1], right) {
			t.Errorf("the second channel became %v", b.Channels[1])
		}
		checkUntouched(t, bytes, wanted, b.Channels[1])
	}
	same := roomy(left)
	list, ok := impl.EncodeStream(impl.Audio{Rate: 1, Depth: 4, Channels: [][]int{same, same}}, 2)
	if !ok {
		t.Error("EncodeStream of one list for both channels fails")
	}
	checkUntouched(t, same, left, list)
}

func TestP65AudioCanLoseChannels(t *testing.T) {
	r := rand.New(rand.NewSource(65))
	for range 200 {
		a := someAudioOf(r, r.Intn(impl.MaxTotal+1))
		from := r.Intn(len(a.Channels[0]) + 1)
		to := from + r.Intn(len(a.Channels[0])-from+1)
		less := impl.Audio{Rate: a.Rate, Depth: a.Depth, Channels: a.Channels[:1]}
		if !impl.ValidAudio(a) || !impl.ValidAudio(less) {
			t.Errorf("%v or its first channel is not valid", a)
		}
		for _, whole := range []impl.Audio{a, less} {
			if part, ok := impl.CutAudio(whole, from, to); !ok || !impl.ValidAudio(part) || len(part.Channels[0]) != to-from {
				t.Errorf("the part of %v from %d to %d is %v, %v", whole, from, to, part, ok)
			}
		}
	}
}

func TestP66NothingIsLost(t *testing.T) {
	r := rand.New(rand.NewSource(66))
	for range 400 {
		a, block, list := someStream(r)
		checkStream(t, "EncodeStream", list, a, block)
	}
	for _, a := range loudAudios() {
		for _, block := range []int{1, 2, 3, 5, 63, 64} {
			if list, ok := impl.EncodeStream(a, block); ok {
				checkStream(t, "EncodeStream of loud audio", list, a, block)
			} else if len(slowStream(a, block)) <= impl.MaxBytes {
				t.Errorf("EncodeStream(%v, %d) fails", a, block)
			}
		}
	}
}

func TestP67StreamsAreFrames(t *testing.T) {
	r := rand.New(rand.NewSource(67))
	for range 300 {
		a, block, list := someStream(r)
		if !slices.Equal(list[:impl.HeadBytes], headBytes(a, block)) {
			t.Errorf("EncodeStream(%v, %d) begins with %v", a, block, list[:impl.HeadBytes])
		}
		rest, total := list[impl.HeadBytes:], len(a.Channels[0])
		for number := range frameCount(a, block) {
			samples, ok := impl.CutAudio(a, number*block, min((number+1)*block, total))
			if !ok {
				t.Fatalf("CutAudio of %v has no block %d of %d samples", a, number, block)
			}
			part, ok := impl.EncodeFrame(impl.Frame{Number: number, Depth: a.Depth, Channels: samples.Channels})
			if !ok || len(part) > len(rest) || !slices.Equal(part, rest[:len(part)]) {
				t.Fatalf("EncodeStream(%v, %d) has no frame %d", a, block, number)
			}
			rest = rest[len(part):]
		}
		if len(rest) > 0 {
			t.Errorf("EncodeStream(%v, %d) has %v behind its frames", a, block, rest)
		}
	}
}

func TestP68WhatIsReadAsAStreamIsOne(t *testing.T) {
	r := rand.New(rand.NewSource(68))
	read, not := 0, 0
	for range 1500 {
		// Streams in which something may be different.
		_, _, list := someStream(r)
		switch r.Intn(6) {
		case 0:
			list[r.Intn(len(list))] = r.Intn(256)
		case 1:
			list[3+r.Intn(8)] ^= 1 << r.Intn(8)
		case 2:
			list = list[:r.Intn(len(list)+1)]
		case 3:
			list[5+r.Intn(6)] += r.Intn(3) - 1
		}
		wanted, size, should := slowDecode(list)
		a, block, ok := impl.DecodeStream(list)
		if ok != should || block != size || !sameAudio(a, wanted) {
			t.Errorf("DecodeStream(%v) = %v, %d, %v instead of %v, %d, %v", list, a, block, ok, wanted, size, should)
		}
		if !ok {
			not++
			continue
		}
		read++
		if again, ok := impl.EncodeStream(a, block); !ok || !slices.Equal(again, list) {
			t.Errorf("EncodeStream of what is read from %v = %v, %v", list, again, ok)
		}
	}
	if read < 500 || not < 300 {
		t.Errorf("%d streams were read, and %d were not", read, not)
	}
}

func TestP139BlocksDoNotChangeSamples(t *testing.T) {
	r := rand.New(rand.NewSource(139))
	for range 12 {
		a := someAudioOf(r, r.Intn(80))
		read := 0
		for block := 1; block <= impl.MaxBlock; block++ {
			if list, ok := impl.EncodeStream(a, block); ok {
				read++
				checkStream(t, "a block", list, a, block)
			}
		}
		if read < 50 {
			t.Errorf("%v is a stream with only %d blocks", a, read)
		}
	}
}

func TestP140PartsOfStreamsAreNoStreams(t *testing.T) {
	r := rand.New(rand.NewSource(140))
	for range 200 {
		_, _, list := someStream(r)
		checkNoStream(t, "all but the last byte", list[:len(list)-1])
		for _, n := range []int{0, 255, list[len(list)-1], r.Intn(256)} {
			checkNoStream(t, "one byte more", append(slices.Clone(list), n))
		}
	}
}
