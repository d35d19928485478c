package tests

import (
	"math/rand"
	"slices"
	"testing"

	"loop.example/losslessaudio/impl"
)

// sealed returns the bytes of a frame with both checks, of the bytes before the first one and the bits behind it.
func sealed(head []int, text string) []int {
	list := append(slices.Clone(head), slowCheck(head, 1, 255, 263))
	return closed(append(list, bitsOfText(text).Bytes...))
}

// closed returns bytes followed by their longer check.
func closed(list []int) []int {
	check := slowCheck(list, 256, 65535, 98309)
	return append(slices.Clone(list), check/256, check%256)
}

// headOf returns the bytes of a frame before the first check, with any second byte.
func headOf(f impl.Frame, second int) []int {
	return append([]int{255, second, f.Depth, len(f.Channels[0]) - 1}, impl.EncodeNumber(f.Number)...)
}

// slowLists returns the second byte of a valid frame, and its lists with their widths, for a mode of two channels.
func slowLists(f impl.Frame, mode int) (int, [][]int, []int) {
	if len(f.Channels) == 1 {
		return 248, f.Channels, []int{f.Depth}
	}
	a, b := slowStereo(mode, f.Channels[0], f.Channels[1])
	widths := [][]int{{0, 0}, {0, 1}, {1, 0}, {0, 1}}[mode]
	return 249 + mode, [][]int{a, b}, []int{f.Depth + widths[0], f.Depth + widths[1]}
}

// frameOfMode returns the bytes that a valid frame would have with a mode, which only counts for two channels.
func frameOfMode(f impl.Frame, mode int) []int {
	second, lists, widths := slowLists(f, mode)
	text := ""
	for i, list := range lists {
		subframe, _ := slowSubframe(list, widths[i])
		text += subframe
	}
	return sealed(headOf(f, second), text)
}

// slowFrame returns the bytes of a valid frame by their definition.
func slowFrame(f impl.Frame) []int {
	mode := 0
	if len(f.Channels) == 2 {
		mode, _ = slowMode(f.Channels[0], f.Channels[1])
	}
	return frameOfMode(f, mode)
}

// sameFrame reports whether frames are the same; nil and empty slices are.
func sameFrame(a impl.Frame, b impl.Frame) bool {
	return a.Number == b.Number && a.Depth == b.Depth && slices.EqualFunc(a.Channels, b.Channels, slices.Equal[[]int])
}

// someFrame returns a valid frame that is the same in every run, with channels that are often similar.
func someFrame(r *rand.Rand) impl.Frame {
	f := impl.Frame{Number: numberBelow(r, 31), Depth: impl.MinWidth + r.Intn(impl.MaxDepth-impl.MinWidth+1)}
	left := someBlock(r, f.Depth)
	f.Channels = [][]int{left}
	if r.Intn(3) == 0 {
		return f
	}
	right := slices.Clone(left)
	for i := range right {
		switch i % 2 * r.Intn(2) {
		case 0:
			right[i] += r.Intn(3) - 1
		default:
			right[i] += r.Intn(1 << f.Depth / 4)
		}
	}
	switch r.Intn(5) {
	case 0:
		right = negated(left)
	case 1:
		right = slices.Clone(left)
	case 2:
		right = smallNumbers(r, len(left), 1<<r.Intn(f.Depth))
	}
	f.Channels = append(f.Channels, inWidth(right, f.Depth))
	if r.Intn(2) == 0 {
		slices.Reverse(f.Channels)
	}
	return f
}

// loudFrames are valid frames with samples at the limits of their depths.
func loudFrames() []impl.Frame {
	all := []impl.Frame{}
	for depth := impl.MinWidth; depth <= impl.MaxDepth; depth++ {
		low, top := -1<<(depth-1), 1<<(depth-1)-1
		for _, channels := range [][][]int{
			{{low}}, {{top}}, {{low, low, low}}, {{low, top, low, top}}, {{low}, {top}}, {{top}, {low}}, {{low}, {low}}, {{top}, {top}},
			{{low, low, 0}, {top, low, 0}}, {{low, low, top, top}, {low, top, low, top}}, {{top, top, low, low}, {low, low, top, top}}, {{low, 0, low}, {0, low, 0}},
			{slices.Repeat([]int{low}, 64), slices.Repeat([]int{top}, 64)}, {slices.Repeat([]int{low, top}, 32), slices.Repeat([]int{top, low}, 32)},
			{{top, top - 1, top - 2, top - 3}, {low, low + 1, low + 2, low + 3}}, {{low, low + 1, low + 2, low + 4}, {low, low + 1, low + 2, low + 3}},
			// The middle, the difference and one of the channels change least.
			{{low, 0, low, 0}, {low + 1, 1, low + 1, 1}}, {{low, 0, low, 0}, {low, 0, low, 1}}, {{low, 0, low, 1}, {low, 0, low, 0}}, {{low, 0, 0, low}, {top, 1, 0, top}}, {{low, top, low}, {top, low, top}},
			{{low + 1, low + 5, low + 2}, {low + 1, low + 4, low}}, {{top - 5, top, top - 3}, {top - 5, top - 1, top - 5}},
		} {
			all = append(all, impl.Frame{Number: depth, Depth: depth, Channels: channels})
		}
	}
	return all
}

// invalidFrames are all kinds of frames that are not valid.
func invalidFrames() map[string]impl.Frame {
	one := [][]int{{1, 2, 3}}
	long := make([]int, impl.MaxBlock+1)
	all := map[string]impl.Frame{
		"nothing":                         {},
		"no channels":                     {Depth: 8},
		"an empty list of channels":       {Depth: 8, Channels: [][]int{}},
		"three channels":                  {Depth: 8, Channels: [][]int{{1}, {1}, {1}}},
		"many channels":                   {Depth: 8, Channels: slices.Repeat(one, 100)},
		"no samples":                      {Depth: 8, Channels: [][]int{{}}},
		"nil for samples":                 {Depth: 8, Channels: [][]int{nil}},
		"two channels without samples":    {Depth: 8, Channels: [][]int{nil, nil}},
		"a second channel without any":    {Depth: 8, Channels: [][]int{{1}, nil}},
		"a first channel without any":     {Depth: 8, Channels: [][]int{nil, {1}}},
		"a shorter second channel":        {Depth: 8, Channels: [][]int{{1, 2, 3}, {1, 2}}},
		"a longer second channel":         {Depth: 8, Channels: [][]int{{1, 2}, {1, 2, 3}}},
		"one sample more than MaxBlock":   {Depth: 8, Channels: [][]int{long}},
		"one more in two channels":        {Depth: 8, Channels: [][]int{long, long}},
		"one more in the second channel":  {Depth: 8, Channels: [][]int{long[1:], long}},
		"a negative number":               {Number: -1, Depth: 8, Channels: one},
		"one more than MaxNumber":         {Number: impl.MaxNumber + 1, Depth: 8, Channels: one},
		"a depth of 0":                    {Depth: 0, Channels: [][]int{{0}}},
		"one less than MinWidth":          {Depth: impl.MinWidth - 1, Channels: [][]int{{0}}},
		"one more than MaxDepth":          {Depth: impl.MaxDepth + 1, Channels: [][]int{{0}}},
		"a depth of 64":                   {Depth: 64, Channels: [][]int{{0}}},
		"a negative depth":                {Depth: -8, Channels: [][]int{{0}}},
		"a depth as great in two":         {Depth: impl.MaxDepth + 1, Channels: [][]int{{0}, {0}}},
		"an invalid second channel alone": {Depth: 8, Channels: [][]int{{0, 0}, {0, 128}}},
		"a second channel too small":      {Depth: 8, Channels: [][]int{{0, 0}, {-129, 0}}},
	}
	for depth := impl.MinWidth; depth <= impl.MaxDepth; depth++ {
		name := string(rune('a' + depth))
		all["one more than the depth allows "+name] = impl.Frame{Depth: depth, Channels: [][]int{{0, 1 << (depth - 1)}}}
		all["one less than the depth allows "+name] = impl.Frame{Depth: depth, Channels: [][]int{{-1<<(depth-1) - 1, 0}}}
		all["one more on the right "+name] = impl.Frame{Depth: depth, Channels: [][]int{{0, 0}, {0, 1 << (depth - 1)}}}
		all["one less on the right "+name] = impl.Frame{Depth: depth, Channels: [][]int{{0, 0}, {-1<<(depth-1) - 1, 0}}}
		all["one more on the left "+name] = impl.Frame{Depth: depth, Channels: [][]int{{1 << (depth - 1)}, {0}}}
	}
	for i, n := range farNumbers {
		name := string(rune('a' + i))
		all["a far number "+name] = impl.Frame{Number: n, Depth: 8, Channels: one}
		all["a far depth "+name] = impl.Frame{Depth: n, Channels: one}
		all["a far sample "+name] = impl.Frame{Depth: 16, Channels: [][]int{{n}}}
		all["a far sample on the right "+name] = impl.Frame{Depth: 16, Channels: [][]int{{0}, {n}}}
		all["far samples "+name] = impl.Frame{Depth: 16, Channels: [][]int{{n}, {n}}}
	}
	return all
}

// checkFrame fails if there is not exactly some frame at a place.
func checkFrame(t *testing.T, what string, list []int, at int, f impl.Frame, end int) {
	t.Helper()
	if got, next, ok := impl.DecodeFrame(list, at); !ok || next != end || !sameFrame(got, f) {
		t.Errorf("DecodeFrame of %s at %d = %v, %d, %v instead of %v, %d", what, at, got, next, ok, f, end)
	}
}

// checkNoFrame fails if DecodeFrame finds a frame.
func checkNoFrame(t *testing.T, what string, list []int, at int) {
	t.Helper()
	if got, next, ok := impl.DecodeFrame(list, at); ok || next != 0 || !sameFrame(got, impl.Frame{}) {
		t.Errorf("DecodeFrame of %s, %v, at %d = %v, %d, %v", what, list, at, got, next, ok)
	}
}

func TestLimitsOfFrames(t *testing.T) {
	if impl.MaxDepth != 16 {
		t.Error("a limit is wrong")
	}
}

func TestValidFrameExamples(t *testing.T) {
	for _, f := range append(loudFrames(),
		impl.Frame{Depth: 4, Channels: [][]int{{0}}},
		impl.Frame{Number: impl.MaxNumber, Depth: 16, Channels: [][]int{{0}, {0}}},
		impl.Frame{Number: 1, Depth: 8, Channels: [][]int{make([]int, impl.MaxBlock)}},
		impl.Frame{Number: 1, Depth: 8, Channels: [][]int{make([]int, impl.MaxBlock), make([]int, impl.MaxBlock)}},
	) {
		if !impl.ValidFrame(f) {
			t.Errorf("ValidFrame(%v) is false", f)
		}
	}
	for name, f := range invalidFrames() {
		if impl.ValidFrame(f) {
			t.Errorf("a frame with %s is valid", name)
		}
	}
}

func TestEncodeFrameExamples(t *testing.T) {
	for _, c := range []struct {
		f    impl.Frame
		head []int
		text string
	}{
		{impl.Frame{Depth: 8, Channels: [][]int{{5, 5, 5}}}, []int{255, 248, 8, 2, 0}, "0000000 0 00000101"},
		{impl.Frame{Number: 127, Depth: 4, Channels: [][]int{{-8}}}, []int{255, 248, 4, 0, 127}, "0000000 1001 1"},
		{impl.Frame{Number: 128, Depth: 16, Channels: [][]int{make([]int, 64)}}, []int{255, 248, 16, 63, 194, 128}, "0000000 0 0000000000000000"},
		{impl.Frame{Number: impl.MaxNumber, Depth: 5, Channels: [][]int{{1, 2}}}, []int{255, 248, 5, 1, 253, 191, 191, 191, 191, 191}, "0000001 0 00001 00010"},
		// The second subframe follows directly behind the first one.
		{impl.Frame{Depth: 4, Channels: [][]int{{3}, {-7}}}, []int{255, 249, 4, 0, 0}, "0000000 0 0011 0000000 0 1001"},
		{impl.Frame{Number: 5, Depth: 4, Channels: [][]int{{0, 5}, {1, 6}}}, []int{255, 250, 4, 1, 5}, "0000001 0 0000 0101 0000000 0 11111"},
		{impl.Frame{Number: 5, Depth: 4, Channels: [][]int{{0, 6}, {1, 5}}}, []int{255, 251, 4, 1, 5}, "0000001 0 11111 00001 0000001 0 0001 0101"},
		{impl.Frame{Number: 5, Depth: 4, Channels: [][]int{{0, 4, 1}, {0, 3, -1}}}, []int{255, 252, 4, 2, 5}, "0000001 0 0000 0011 0000 0001000 0 00 0000 1 001 00001"},
		// One bit more for the difference.
		{impl.Frame{Depth: 4, Channels: [][]int{{7, 6}, {-8, -8}}}, []int{255, 249, 4, 1, 0}, "0000001 0 0111 0110 0000000 1001 1"},
		{impl.Frame{Depth: 4, Channels: [][]int{{7, 7, 6}, {-8, -7, -8}}}, []int{255, 250, 4, 2, 0}, "0000001 0 0111 0111 0110 0001001 0 01111 00 0000 01 1"},
		{impl.Frame{Depth: 4, Channels: [][]int{{-8, -7}, {7, 7}}}, []int{255, 249, 4, 1, 0}, "0000001 0 1000 1001 0000000 0 0111"},
		{impl.Frame{Depth: 4, Channels: [][]int{{-8, -7}, {6, 7}}}, []int{255, 250, 4, 1, 0}, "0000001 0 1000 1001 0000000 11 1001"},
		{impl.Frame{Depth: 4, Channels: [][]int{{7, 6}, {-8, -7}}}, []int{255, 249, 4, 1, 0}, "0000001 0 0111 0110 0000001 0 1000 1001"},
		{impl.Frame{Depth: 16, Channels: [][]int{{-32768, -32767}, {32767, 32766}}}, []int{255, 249, 16, 1, 0}, "0001001 0 1000000000000000 00 0000 001 0001001 0 0111111111111111 00 0000 01"},
		{impl.Frame{Depth: 16, Channels: [][]int{{-32767, -32763, -32766}, {-32767, -32764, -32768}}}, []int{255, 252, 16, 2, 0}, "0001001 0 1000000000000001 00 0010 0110 0101 0001000 0 00 0000 1 001 00001"},
		{impl.Frame{Depth: 16, Channels: [][]int{{-32768, -32768}, {32766, 32767}}}, []int{255, 249, 16, 1, 0}, "0000000 1000000000000001 1 0001001 0 0111111111111110 00 0000 001"},
	} {
		want := sealed(c.head, without(c.text))
		if got, ok := impl.EncodeFrame(c.f); !ok || !slices.Equal(got, want) {
			t.Errorf("EncodeFrame(%v) = %v, %v instead of %v", c.f, got, ok, want)
		}
		checkFrame(t, "an example", want, 0, c.f, len(want))
	}
}

func TestEncodeFrameFollowsItsDefinition(t *testing.T) {
	r := rand.New(rand.NewSource(1))
	found, tied := map[int]int{}, 0
	frames := loudFrames()
	for range 800 {
		frames = append(frames, someFrame(r))
	}
	for _, f := range frames {
		want := slowFrame(f)
		got, ok := impl.EncodeFrame(f)
		if !ok || !slices.Equal(got, want) {
			t.Errorf("EncodeFrame(%v) = %v, %v instead of %v", f, got, ok, want)
		}
		checkFrame(t, "a frame", want, 0, f, len(want))
		found[want[1]]++
		if len(f.Channels) == 2 {
			if _, ties := slowMode(f.Channels[0], f.Channels[1]); ties > 0 {
				tied++
			}
		}
	}
	if len(found) != 5 || tied < 100 {
		t.Errorf("the frames have the second bytes %v, and ties %d times", found, tied)
	}
}

func TestEncodeFrameOfInvalidFrames(t *testing.T) {
	for name, f := range invalidFrames() {
		if list, ok := impl.EncodeFrame(f); ok || len(list) > 0 {
			t.Errorf("EncodeFrame with %s = %v, %v", name, list, ok)
		}
	}
}

func TestDecodeFrameUpToMaxBytes(t *testing.T) {
	r := rand.New(rand.NewSource(2))
	for range 20 {
		f := someFrame(r)
		list := slowFrame(f)
		for _, size := range []int{len(list), len(list) + 1, 1000, impl.MaxBytes - 1, impl.MaxBytes} {
			at := size - len(list)
			checkFrame(t, "a frame at the end", append(make([]int, at), list...), at, f, size)
			checkFrame(t, "a frame at the beginning", append(slices.Clone(list), make([]int, at)...), 0, f, len(list))
		}
		more := impl.MaxBytes + 1 - len(list)
		checkNoFrame(t, "a list with one byte too many", append(make([]int, more), list...), more)
		checkNoFrame(t, "a list with one byte too many", append(slices.Clone(list), make([]int, more)...), 0)
	}
}

func TestDecodeFrameOfInvalidArguments(t *testing.T) {
	f := impl.Frame{Number: 300, Depth: 8, Channels: [][]int{{1, 2, 4, 9}, {1, 2, 4, 7}}}
	list := slowFrame(f)
	for _, at := range append([]int{-1, -len(list), 1, 2, len(list) - 4, len(list) - 3, len(list) - 1, len(list), len(list) + 1, len(list) + 100, -impl.MaxBytes}, farNumbers...) {
		checkNoFrame(t, "a frame", list, at)
	}
	for name, bad := range invalidBytes() {
		checkNoFrame(t, name, bad, 0)
		checkNoFrame(t, name+" behind a frame", append(slices.Clone(list), bad...), 0)
		checkNoFrame(t, name+" before a frame", append(slices.Clone(bad), list...), len(bad))
	}
	for i := range list {
		for _, n := range append([]int{list[i] + 256, list[i] - 256, -1, 256}, farNumbers...) {
			bad := slices.Clone(list)
			bad[i] = n
			checkNoFrame(t, "a frame with a number that is no byte", bad, 0)
		}
	}
	checkNoFrame(t, "an empty list", nil, 0)
	for size := range list {
		checkNoFrame(t, "a part of a frame", list[:size], 0)
	}
	checkFrame(t, "a frame", list, 0, f, len(list))
}

func TestDecodeFrameWithDamagedChecks(t *testing.T) {
	r := rand.New(rand.NewSource(3))
	for range 20 {
		f := someFrame(r)
		list := slowFrame(f)
		end := len(list)
		short := 4 + len(impl.EncodeNumber(f.Number))
		for n := 1; n < 256; n++ {
			// The shorter check is wrong although the longer one is right.
			bad := slices.Clone(list)
			bad[short] ^= n
			checkNoFrame(t, "a damaged shorter check", closed(bad[:end-2]), 0)
			for _, i := range []int{short, end - 2, end - 1} {
				bad := slices.Clone(list)
				bad[i] ^= n
				checkNoFrame(t, "a damaged check", bad, 0)
			}
		}
		bad := slices.Clone(list)
		bad[end-2], bad[end-1] = 255-bad[end-2], 255-bad[end-1]
		checkNoFrame(t, "a damaged longer check", bad, 0)
	}
}

func TestDecodeFrameOfOtherHeads(t *testing.T) {
	// All checks are right, but no frame begins like this.
	f := impl.Frame{Number: 3, Depth: 8, Channels: [][]int{{5, 5, 5}}}
	for second := range 256 {
		for first := range 256 {
			list := sealed([]int{first, second, 8, 2, 3}, without("0000000 0 00000101 0000000 0 00000101"))
			one := sealed([]int{first, second, 8, 2, 3}, without("0000000 0 00000101"))
			if first == 255 && second == 248 {
				checkFrame(t, "a right head", one, 0, f, len(one))
			} else {
				checkNoFrame(t, "another head", one, 0)
			}
			if first == 255 && second == 249 {
				two := impl.Frame{Number: 3, Depth: 8, Channels: [][]int{{5, 5, 5}, {5, 5, 5}}}
				checkFrame(t, "a right head", list, 0, two, len(list))
			} else {
				checkNoFrame(t, "another head", list, 0)
			}
		}
	}
	for n := range 256 {
		// All depths, and all counts.
		constant := "0000000 0 " + textOfNumber(5, min(n, 40))
		list := sealed([]int{255, 248, n, 2, 3}, without(constant))
		if n >= impl.MinWidth && n <= impl.MaxDepth {
			checkFrame(t, "a right depth", list, 0, impl.Frame{Number: 3, Depth: n, Channels: [][]int{{5, 5, 5}}}, len(list))
		} else {
			checkNoFrame(t, "another depth", list, 0)
		}
		list = sealed([]int{255, 248, 8, n, 3}, without("0000000 0 00000101"))
		if n < impl.MaxBlock {
			checkFrame(t, "a right count", list, 0, impl.Frame{Number: 3, Depth: 8, Channels: [][]int{slices.Repeat([]int{5}, n+1)}}, len(list))
		} else {
			checkNoFrame(t, "another count", list, 0)
		}
	}
	for _, number := range [][]int{{128}, {191}, {192, 128}, {193, 191}, {194}, {194, 0}, {194, 192}, {224, 159, 191}, {254, 128, 128, 128, 128, 128}, {254, 128, 128, 128, 128, 128, 128}, {255}} {
		list := sealed(append([]int{255, 248, 8, 2}, number...), without("0000000 0 00000101"))
		checkNoFrame(t, "a number that is none", list, 0)
	}
}

func TestDecodeFrameOfOtherModes(t *testing.T) {
	r := rand.New(rand.NewSource(4))
	others := 0
	for range 150 {
		f := someFrame(r)
		if len(f.Channels) == 1 {
			continue
		}
		best, _ := slowMode(f.Channels[0], f.Channels[1])
		for mode := range 4 {
			list := frameOfMode(f, mode)
			if mode == best {
				checkFrame(t, "the best mode", list, 0, f, len(list))
				continue
			}
			others++
			checkNoFrame(t, "another mode", list, 0)
		}
	}
	if others < 200 {
		t.Errorf("only %d frames have another mode", others)
	}
}

func TestDecodeFrameOfOtherSubframes(t *testing.T) {
	r := rand.New(rand.NewSource(5))
	others := 0
	for range 150 {
		width := impl.MinWidth + r.Intn(13)
		list := someBlock(r, width)
		f := impl.Frame{Number: r.Intn(1000), Depth: width, Channels: [][]int{list}}
		best, _ := slowSubframe(list, width)
		k := slowWasted(list)
		texts := []string{plainText(1, k, dividedDown(list, k), width), plainText(1, 0, list, width)}
		for order := range min(len(list), impl.MaxFixed) + 1 {
			texts = append(texts, fixedText(list, width, order))
		}
		if text, ok := linearText(list, width, impl.Linear{Coefs: []int{1}}); ok {
			texts = append(texts, text)
		}
		if slices.Min(list) == slices.Max(list) {
			texts = append(texts, plainText(0, 0, list[:1], width), plainText(0, k, dividedDown(list[:1], k), width))
		}
		for _, text := range texts {
			if _, _, ok := impl.DecodeSubframe(bitsOfText(text), 0, len(list), width); !ok {
				t.Errorf("DecodeSubframe(%s) fails", text)
			}
			bytes := sealed(headOf(f, 248), text)
			if text == best {
				checkFrame(t, "the best subframe", bytes, 0, f, len(bytes))
				continue
			}
			others++
			checkNoFrame(t, "another subframe", bytes, 0)
		}
	}
	if others < 500 {
		t.Errorf("only %d subframes are others", others)
	}
	// Zeros have no wasted bits, and any number of partitions and each width of Escape are read.
	head := []int{255, 248, 8, 3, 0}
	for _, text := range []string{"0000000 11 0000000", "0000000 101 000000", "0001000 0 01 0000 1 1 0000 1 1", "0001000 0 00 1111 00000", "0001000 0 00 1111 00011 000 000 000 000"} {
		if list, _, ok := impl.DecodeSubframe(bitsOfText(without(text)), 0, 4, 8); !ok || !allZeros(list) {
			t.Errorf("DecodeSubframe(%s) = %v, %v", text, list, ok)
		}
		checkNoFrame(t, "zeros in another form", sealed(head, without(text)), 0)
	}
	right := sealed(head, without("0000000 0 00000000"))
	checkFrame(t, "zeros", right, 0, impl.Frame{Depth: 8, Channels: [][]int{{0, 0, 0, 0}}}, len(right))
}

func TestDecodeFrameOfOtherEnds(t *testing.T) {
	head := []int{255, 248, 5, 0, 7}
	f := impl.Frame{Number: 7, Depth: 5, Channels: [][]int{{-3}}}
	right := sealed(head, without("0000000 0 11101 000"))
	checkFrame(t, "a frame", right, 0, f, len(right))
	for _, end := range []string{"001", "010", "100", "111", "000 00000000", "000 00000001"} {
		checkNoFrame(t, "a frame that is filled up differently", sealed(head, without("0000000 0 11101"+end)), 0)
	}
	// No byte is filled up if all are full.
	full := impl.Frame{Number: 7, Depth: 8, Channels: [][]int{{-3}}}
	right = sealed([]int{255, 248, 8, 0, 7}, without("0000000 0 11111101"))
	checkFrame(t, "a frame of whole bytes", right, 0, full, len(right))
	checkNoFrame(t, "a frame with one more byte", sealed([]int{255, 248, 8, 0, 7}, without("0000000 0 11111101 00000000")), 0)
	// The second subframe may not begin with a new byte.
	two := impl.Frame{Number: 7, Depth: 5, Channels: [][]int{{-3}, {4}}}
	right = sealed([]int{255, 249, 5, 0, 7}, without("0000000 0 11101 0000000 101 001"))
	checkFrame(t, "two channels", right, 0, two, len(right))
	checkNoFrame(t, "two channels that are filled up", sealed([]int{255, 249, 5, 0, 7}, without("0000000 0 11101 000 0000000 101 001")), 0)
	checkNoFrame(t, "only one of two channels", sealed([]int{255, 249, 5, 0, 7}, without("0000000 0 11101 000")), 0)
	checkNoFrame(t, "two channels instead of one", sealed([]int{255, 248, 5, 0, 7}, without("0000000 0 11101 0000000 101 001")), 0)
	// Without a body, or with only a part of it.
	checkNoFrame(t, "a head only", sealed([]int{255, 248, 5, 0, 7}, ""), 0)
	checkNoFrame(t, "a part of a body", sealed([]int{255, 248, 16, 0, 7}, without("0000000 0 11111111 1111110")), 0)
}

func TestDecodeFrameOfSamplesOutOfTheDepth(t *testing.T) {
	// The lists fit into their widths, but the channels do not.
	for _, c := range []struct {
		second int
		text   string
		widths []int
	}{
		{250, "0000000 0 0111 0000000 0 11111", []int{4, 5}}, {250, "0000000 0 1000 0000000 0 00001", []int{4, 5}}, {250, "0000000 0 0000 0000000 1001 10", []int{4, 5}},
		{251, "0000000 0 00001 0000000 0 0111", []int{5, 4}}, {251, "0000000 0 11111 0000000 1001 1", []int{5, 4}},
		{252, "0000000 0 0111 0000000 0 00001", []int{4, 5}}, {252, "0000000 1001 1 0000000 11 0001", []int{4, 5}},
	} {
		list := sealed([]int{255, c.second, 4, 0, 0}, without(c.text))
		b := bitsOfText(without(c.text))
		at := 0
		for _, width := range c.widths {
			_, next, ok := impl.DecodeSubframe(b, at, 1, width)
			if !ok {
				t.Errorf("DecodeSubframe(%s, %d) fails", c.text, at)
			}
			at = next
		}
		checkNoFrame(t, "samples out of the depth", list, 0)
	}
	for _, channels := range [][][]int{{{7, 6}, {8, 7}}, {{-8, -7}, {-9, -8}}, {{8, 6, 8}, {7, 6, 7}}, {{-9, -7, -9}, {-8, -7, -8}}, {{4, 8, 5}, {4, 7, 3}}} {
		// Even the mode is the best one.
		f := impl.Frame{Depth: 4, Channels: channels}
		checkNoFrame(t, "channels out of the depth", slowFrame(f), 0)
		f.Depth = 5
		list := slowFrame(f)
		checkFrame(t, "channels of a greater depth", list, 0, f, len(list))
	}
	right := sealed([]int{255, 249, 4, 0, 0}, without("0000000 0 0111 0000000 1001 1"))
	checkFrame(t, "samples at both limits", right, 0, impl.Frame{Depth: 4, Channels: [][]int{{7}, {-8}}}, len(right))
}

func TestDecodeFrameBehindABeginning(t *testing.T) {
	r := rand.New(rand.NewSource(6))
	starts := [][]int{{255}, {255, 248}, {255, 255, 248}, {255, 252, 16, 63}, {255, 248, 8, 2, 0}, {255, 250, 8, 2, 194}, {255, 248, 8, 2, 0, slowCheck([]int{255, 248, 8, 2, 0}, 1, 255, 263)}}
	for range 100 {
		f := someFrame(r)
		list := slowFrame(f)
		for _, start := range starts {
			all := append(slices.Clone(start), list...)
			checkFrame(t, "a frame behind a beginning", all, len(start), f, len(all))
			for at := range start {
				checkNoFrame(t, "only a beginning", all, at)
			}
		}
		// The head of another frame with the body of this one.
		g := someFrame(r)
		other := slowFrame(g)
		size := 5 + len(impl.EncodeNumber(g.Number))
		mixed := append(slices.Clone(other[:size]), list[5+len(impl.EncodeNumber(f.Number)):]...)
		if got, next, ok := impl.DecodeFrame(mixed, 0); ok && !slices.Equal(slowFrame(got), mixed[:next]) {
			t.Errorf("DecodeFrame(%v) = %v, %d", mixed, got, next)
		}
	}
	checkNoFrame(t, "only the first byte", []int{255}, 0)
	checkNoFrame(t, "many first bytes", slices.Repeat([]int{255}, impl.MaxBytes), 7)
	checkNoFrame(t, "many beginnings", slices.Repeat([]int{255, 248}, impl.MaxBytes/2), 0)
}

func TestFramesTouchNothing(t *testing.T) {
	was := []int{3, -1, 7, 4, 5}
	for _, right := range [][]int{{2, -1, 6, 4, 5}, {3, 0, 7, 4, 4}, {0, 1, 0, 1, 0}, {-3, 1, -7, -4, -5}} {
		left, roomyRight := roomy(was), roomy(right)
		channels := [][]int{left, roomyRight, {77}}[:2]
		list, ok := impl.EncodeFrame(impl.Frame{Number: 1, Depth: 4, Channels: channels})
		if !ok || !impl.ValidFrame(impl.Frame{Depth: 4, Channels: channels}) {
			t.Fatal("EncodeFrame fails")
		}
		wanted := slices.Clone(list)
		checkUntouched(t, left, was, list)
		checkUntouched(t, roomyRight, right, list)
		if len(channels[:3][2]) != 1 || channels[:3][2][0] != 77 {
			t.Error("the spare capacity of the channels was written")
		}
		bytes := roomy(wanted)
		f, _, ok := impl.DecodeFrame(bytes, 0)
		if !ok || !slices.Equal(f.Channels[0], was) || !slices.Equal(f.Channels[1], right) {
			t.Errorf("DecodeFrame = %v, %v", f, ok)
		}
		checkUntouched(t, bytes, wanted, f.Channels[0])
		if !slices.Equal(f.Channels[1], right) {
			t.Errorf("the second channel became %v", f.Channels[1])
		}
		checkUntouched(t, bytes, wanted, f.Channels[1])
	}
	// One channel, and one list for both.
	left := roomy(was)
	for _, channels := range [][][]int{{left}, {left, left}} {
		list, _ := impl.EncodeFrame(impl.Frame{Number: 1, Depth: 4, Channels: channels})
		checkFrame(t, "a frame", list, 0, impl.Frame{Number: 1, Depth: 4, Channels: channels}, len(list))
		checkUntouched(t, left, was, list)
	}
}

func TestP59FramesCanLoseChannels(t *testing.T) {
	r := rand.New(rand.NewSource(59))
	for _, f := range append(loudFrames(), someFrame(r), someFrame(r), someFrame(r)) {
		less := impl.Frame{Number: f.Number, Depth: f.Depth, Channels: f.Channels[:1]}
		if !impl.ValidFrame(f) || !impl.ValidFrame(less) {
			t.Errorf("ValidFrame(%v) or with one channel is false", f)
		}
		for _, g := range []impl.Frame{f, less} {
			if list, ok := impl.EncodeFrame(g); !ok || len(list) == 0 {
				t.Errorf("EncodeFrame(%v) = %v, %v", g, list, ok)
			}
		}
	}
	valid, invalid := 0, 0
	for range 3000 {
		// Frames of which something may be wrong.
		f := someFrame(r)
		switch r.Intn(5) {
		case 0:
			f.Depth += r.Intn(5) - 2
		case 1:
			f.Number += r.Intn(2) << 31
		case 2:
			f.Channels = append(f.Channels, slices.Clone(f.Channels[0]))
		case 3:
			last := len(f.Channels) - 1
			f.Channels[last] = append(f.Channels[last], 1)
		}
		list, ok := impl.EncodeFrame(f)
		if ok != impl.ValidFrame(f) || ok != (len(list) > 0) {
			t.Errorf("EncodeFrame(%v) = %v, %v", f, list, ok)
		}
		if ok {
			valid++
		} else {
			invalid++
		}
	}
	for name, f := range invalidFrames() {
		if list, ok := impl.EncodeFrame(f); ok || len(list) > 0 || impl.ValidFrame(f) {
			t.Errorf("EncodeFrame with %s = %v, %v", name, list, ok)
		}
	}
	if valid < 500 || invalid < 500 {
		t.Errorf("%d frames are valid, and %d are not", valid, invalid)
	}
}

func TestP60FramesCanBeRead(t *testing.T) {
	r := rand.New(rand.NewSource(60))
	frames := loudFrames()
	for range 1500 {
		frames = append(frames, someFrame(r))
	}
	for _, f := range frames {
		list, ok := impl.EncodeFrame(f)
		if !ok {
			t.Errorf("EncodeFrame(%v) fails", f)
		}
		checkFrame(t, "EncodeFrame", list, 0, f, len(list))
	}
}

func TestP61FramesCarryTheirChecks(t *testing.T) {
	r := rand.New(rand.NewSource(61))
	for range 1000 {
		f := someFrame(r)
		list, ok := impl.EncodeFrame(f)
		if !ok || impl.Crc16(list) != 0 || list[0] != 255 {
			t.Errorf("EncodeFrame(%v) = %v, %v", f, list, ok)
		}
		head := 5 + len(impl.EncodeNumber(f.Number))
		if impl.Crc8(list[:head]) != 0 {
			t.Errorf("the head of EncodeFrame(%v) = %v has another check", f, list)
		}
	}
}

func TestP62DamageIsFound(t *testing.T) {
	r := rand.New(rand.NewSource(62))
	for range 40 {
		f := someFrame(r)
		list, _ := impl.EncodeFrame(f)
		for i := range list {
			changes := []int{1, 2, 4, 8, 16, 32, 64, 128, 255, 1 + r.Intn(255), 1 + r.Intn(255)}
			for _, n := range changes {
				bad := slices.Clone(list)
				bad[i] ^= n
				got, _, ok := impl.DecodeFrame(bad, 0)
				if ok && sameFrame(got, f) {
					t.Errorf("DecodeFrame of %v with %d instead of %d at %d = %v", list, bad[i], list[i], i, got)
				}
			}
		}
		checkNoFrame(t, "all bytes but the last one", list[:len(list)-1], 0)
	}
}

func TestP63WhatIsReadAsAFrameIsOne(t *testing.T) {
	r := rand.New(rand.NewSource(63))
	read := 0
	for range 400 {
		list := []int{}
		for len(list) < 300 {
			if r.Intn(2) == 0 {
				next, _ := impl.EncodeFrame(someFrame(r))
				list = append(list, next...)
			} else {
				list = append(list, someBytes(r, r.Intn(9))...)
			}
		}
		if r.Intn(2) == 0 {
			list[r.Intn(len(list))] = r.Intn(256)
		}
		for at := range list {
			f, next, ok := impl.DecodeFrame(list, at)
			if !ok {
				continue
			}
			read++
			again, ok := impl.EncodeFrame(f)
			if !ok || next > len(list) || !slices.Equal(again, list[at:next]) {
				t.Errorf("EncodeFrame of %v, read at %d, = %v instead of %v", f, at, again, list[at:next])
			}
		}
	}
	if read < 500 {
		t.Errorf("only %d frames were read", read)
	}
}

func TestP64FramesCanBeAnywhere(t *testing.T) {
	r := rand.New(rand.NewSource(64))
	for range 500 {
		f := someFrame(r)
		list, _ := impl.EncodeFrame(f)
		before, behind := someBytes(r, r.Intn(300)), someBytes(r, r.Intn(20))
		if r.Intn(4) == 0 {
			before, _ = impl.EncodeFrame(someFrame(r))
		}
		all := slices.Concat(before, list, behind)
		checkFrame(t, "a frame between other bytes", all, len(before), f, len(before)+len(list))
	}
}

func TestP138NumbersDoNotChangeSamples(t *testing.T) {
	r := rand.New(rand.NewSource(138))
	for range 300 {
		f := someFrame(r)
		for _, number := range []int{0, 127, 128, 2047, 2048, 65536, 2097152, 67108864, impl.MaxNumber, numberBelow(r, 31)} {
			g := impl.Frame{Number: number, Depth: f.Depth, Channels: f.Channels}
			list, ok := impl.EncodeFrame(g)
			if !ok {
				t.Errorf("EncodeFrame(%v) fails", g)
			}
			checkFrame(t, "another number", list, 0, g, len(list))
		}
	}
}
