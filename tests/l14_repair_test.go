package tests

import (
	"math/rand"
	"slices"
	"testing"

	"loop.example/losslessaudio/impl"
)

// slowFind returns the first place from one on at which there is a frame, by trying all places.
func slowFind(list []int, from int) int {
	for at := from; at < len(list); at++ {
		if _, _, ok := impl.DecodeFrame(list, at); ok {
			return at
		}
	}
	return -1
}

// slowScan returns the frames that are found, by trying all places.
func slowScan(list []int) []impl.Found {
	all := []impl.Found{}
	for at := slowFind(list, 0); at >= 0; {
		f, next, _ := impl.DecodeFrame(list, at)
		all = append(all, impl.Found{At: at, Next: next, Number: f.Number, Count: len(f.Channels[0])})
		at = slowFind(list, next)
	}
	return all
}

// slowRepair returns the audio and the missing frames of a stream with valid first bytes, by searching each frame.
func slowRepair(list []int) (impl.Audio, []int) {
	a, block := impl.Audio{Rate: 65536*list[6] + 256*list[7] + list[8], Depth: list[4], Channels: make([][]int, list[3])}, list[5]
	total := 256*list[9] + list[10]
	others := list[11:]
	found, missing := slowScan(others), []int{}
	for number := 0; number*block < total; number++ {
		size := min(block, total-number*block)
		frame := impl.Frame{}
		for _, one := range found {
			f, _, _ := impl.DecodeFrame(others, one.At)
			if f.Number == number && f.Depth == a.Depth && len(f.Channels) == len(a.Channels) && len(f.Channels[0]) == size && len(frame.Channels) == 0 {
				frame = f
			}
		}
		if len(frame.Channels) == 0 {
			missing = append(missing, number)
			frame.Channels = [][]int{make([]int, size), make([]int, size)}
		}
		for i := range a.Channels {
			a.Channels[i] = append(a.Channels[i], frame.Channels[i]...)
		}
	}
	return a, missing
}

// checkRepair fails if the audio of a damaged stream or its missing frames are not the wanted ones.
func checkRepair(t *testing.T, what string, list []int, a impl.Audio, missing []int) {
	t.Helper()
	got, lost, ok := impl.RepairStream(list)
	if !ok || !sameAudio(got, a) || !slices.Equal(lost, missing) {
		t.Errorf("RepairStream of %s, %v, = %v, %v, %v instead of %v, %v", what, list, got, lost, ok, a, missing)
	}
}

// checkNoRepair fails if a list is repaired.
func checkNoRepair(t *testing.T, what string, list []int) {
	t.Helper()
	if got, lost, ok := impl.RepairStream(list); ok || len(lost) > 0 || !sameAudio(got, impl.Audio{}) {
		t.Errorf("RepairStream of %s, %v, = %v, %v, %v", what, list, got, lost, ok)
	}
}

// checkScan fails if the frames that are found are not those that all places have.
func checkScan(t *testing.T, what string, list []int) {
	t.Helper()
	if got, want := impl.ScanFrames(list), slowScan(list); !slices.Equal(got, want) {
		t.Errorf("ScanFrames of %s, %v, = %v instead of %v", what, list, got, want)
	}
}

// someMixture returns bytes with frames, beginnings and other bytes that are the same in every run.
func someMixture(r *rand.Rand, size int) []int {
	list := []int{}
	for len(list) < size {
		frame := slowFrame(impl.Frame{Number: r.Intn(300), Depth: 8, Channels: [][]int{someLine(r, 1+r.Intn(6), 8)}})
		switch r.Intn(6) {
		case 0:
			list = append(list, someBytes(r, r.Intn(9))...)
		case 1:
			list = append(list, frame[:r.Intn(len(frame))]...)
		case 2:
			list = append(list, [][]int{{255}, {255, 255}, {255, 248}, {255, 252, 8}}[r.Intn(4)]...)
		case 3:
			frame[r.Intn(len(frame))] = r.Intn(256)
			list = append(list, frame...)
		default:
			list = append(list, frame...)
		}
	}
	return list[:size]
}

// spelling returns a frame of Depth 8 with all samples stored as they are, so that its bytes have the given ones.
func spelling(t *testing.T, number int, bytes []int) impl.Frame {
	t.Helper()
	list := []int{}
	for _, n := range bytes {
		if n > 127 {
			n -= 256
		}
		list = append(list, n)
	}
	// Noise around them makes other subframes longer.
	for i := 0; len(list) < 40; i++ {
		list = append(slices.Clone([]int{127 - i, 90 + i}[i%2:i%2+1]), list...)
		list = append(list, []int{-128 + i, 100, 61, -90}[i%4])
	}
	f := impl.Frame{Number: number, Depth: 8, Channels: [][]int{list}}
	if form := slowFrame(f); slowFindBytes(form, bytes) < 0 {
		t.Fatalf("the frame %v does not spell %v", form, bytes)
	}
	return f
}

// slowFindBytes returns the first place of bytes in a list; -1 if there is none.
func slowFindBytes(list []int, bytes []int) int {
	for at := range list {
		if len(list)-at >= len(bytes) && slices.Equal(list[at:at+len(bytes)], bytes) {
			return at
		}
	}
	return -1
}

func TestFindFrameExamples(t *testing.T) {
	one := slowFrame(impl.Frame{Number: 7, Depth: 8, Channels: [][]int{{5, 5, 5}}})
	two := slowFrame(impl.Frame{Number: 8, Depth: 4, Channels: [][]int{{1, 2}, {2, 2}}})
	list := slices.Concat([]int{0, 255, 248}, one, []int{255, 255}, two, two, []int{255, 248, 8, 2, 0})
	first, second := 3, 3+len(one)+2
	third := second + len(two)
	for from := range impl.MaxBytes + 1 {
		want := -1
		switch {
		case from <= first:
			want = first
		case from <= second:
			want = second
		case from <= third:
			want = third
		}
		if got := impl.FindFrame(list, from); got != want {
			t.Errorf("FindFrame from %d on = %d instead of %d", from, got, want)
		}
	}
	want := []impl.Found{{At: first, Next: first + len(one), Number: 7, Count: 3}, {At: second, Next: third, Number: 8, Count: 2}, {At: third, Next: third + len(two), Number: 8, Count: 2}}
	if got := impl.ScanFrames(list); !slices.Equal(got, want) {
		t.Errorf("ScanFrames = %v instead of %v", got, want)
	}
}

func TestFindFrameAtTheEnd(t *testing.T) {
	frame := slowFrame(impl.Frame{Number: 1, Depth: 8, Channels: [][]int{{5}}})
	for _, size := range []int{len(frame), len(frame) + 1, 100, impl.MaxBytes - 1, impl.MaxBytes} {
		at := size - len(frame)
		list := append(make([]int, at), frame...)
		for _, from := range []int{0, at - 1, at} {
			if got := impl.FindFrame(list, from); from >= 0 && got != at {
				t.Errorf("FindFrame of %d bytes from %d on = %d", size, from, got)
			}
		}
		for _, from := range []int{at + 1, size - 4, size - 3, size - 1, size, size + 1, impl.MaxBytes} {
			if got := impl.FindFrame(list, from); from > at && got != -1 {
				t.Errorf("FindFrame of %d bytes from %d on = %d", size, from, got)
			}
		}
		if got := impl.ScanFrames(list); !slices.Equal(got, []impl.Found{{At: at, Next: size, Number: 1, Count: 1}}) {
			t.Errorf("ScanFrames of %d bytes = %v", size, got)
		}
		if got := impl.FindFrame(list[:size-1], 0); got != -1 {
			t.Errorf("FindFrame of a part of a frame = %d", got)
		}
		if got := impl.ScanFrames(list[:size-1]); len(got) != 0 {
			t.Errorf("ScanFrames of a part of a frame = %v", got)
		}
	}
	// Many frames, up to the last byte.
	many := slices.Repeat(frame, impl.MaxBytes/len(frame))
	many = append(make([]int, impl.MaxBytes-len(many)), many...)
	if got := impl.ScanFrames(many); len(got) != impl.MaxBytes/len(frame) || got[len(got)-1].Next != impl.MaxBytes {
		t.Errorf("ScanFrames of many frames = %v", got)
	}
}

func TestFindFrameFollowsItsDefinition(t *testing.T) {
	r := rand.New(rand.NewSource(1))
	for range 200 {
		list := someMixture(r, r.Intn(150))
		for from := range len(list) + 2 {
			if got, want := impl.FindFrame(list, from), slowFind(list, from); got != want {
				t.Errorf("FindFrame(%v, %d) = %d instead of %d", list, from, got, want)
			}
		}
		checkScan(t, "a mixture", list)
	}
	for _, list := range [][]int{{}, {255}, slices.Repeat([]int{255}, impl.MaxBytes), slices.Repeat([]int{255, 248}, impl.MaxBytes/2), someMixture(r, impl.MaxBytes)} {
		checkScan(t, "a special list", list)
	}
}

func TestFindFrameOfInvalidArguments(t *testing.T) {
	frame := slowFrame(impl.Frame{Number: 1, Depth: 8, Channels: [][]int{{5}}})
	for _, from := range append([]int{-1, -len(frame), impl.MaxBytes + 1, impl.MaxBytes + 100}, farNumbers...) {
		for _, list := range [][]int{nil, frame, slices.Repeat(frame, 200)} {
			if got := impl.FindFrame(list, from); got != -1 {
				t.Errorf("FindFrame(%v, %d) = %d", list, from, got)
			}
		}
	}
	for name, bad := range invalidBytes() {
		for _, list := range [][]int{bad, slices.Concat(bad, frame), slices.Concat(frame, bad), slices.Concat(frame, bad, frame)} {
			for _, from := range []int{-1, 0, 1, len(bad), len(frame), impl.MaxBytes, impl.MaxBytes + 1} {
				if got := impl.FindFrame(list, from); got != -1 {
					t.Errorf("FindFrame of a list with %s from %d on = %d", name, from, got)
				}
			}
			if got := impl.ScanFrames(list); len(got) != 0 {
				t.Errorf("ScanFrames of a list with %s = %v", name, got)
			}
		}
	}
	// A list of one byte more than allowed has no frames, wherever they are.
	more := impl.MaxBytes + 1 - len(frame)
	for _, list := range [][]int{append(make([]int, more), frame...), append(slices.Clone(frame), make([]int, more)...)} {
		for _, from := range []int{0, more, impl.MaxBytes} {
			if got := impl.FindFrame(list, from); got != -1 {
				t.Errorf("FindFrame of too many bytes from %d on = %d", from, got)
			}
		}
		if got := impl.ScanFrames(list); len(got) != 0 {
			t.Errorf("ScanFrames of too many bytes = %v", got)
		}
	}
	if impl.FindFrame(nil, 0) != -1 || len(impl.ScanFrames(nil)) != 0 {
		t.Error("an empty list has a frame")
	}
}

func TestScanFramesOfFramesInsideOthers(t *testing.T) {
	inner := slowFrame(impl.Frame{Number: 2, Depth: 8, Channels: [][]int{{5, 5, 5}}})
	outer := slowFrame(spelling(t, 1, inner))
	inside := slowFindBytes(outer, inner)
	if got := impl.FindFrame(outer, 0); got != 0 {
		t.Errorf("FindFrame = %d", got)
	}
	for from := 1; from <= inside; from++ {
		if got := impl.FindFrame(outer, from); got != inside {
			t.Errorf("FindFrame from %d on = %d instead of %d", from, got, inside)
		}
	}
	list := slices.Concat(outer, outer, inner)
	want := []impl.Found{{At: 0, Next: len(outer), Number: 1, Count: 40}, {At: len(outer), Next: 2 * len(outer), Number: 1, Count: 40}, {At: 2 * len(outer), Next: 2*len(outer) + len(inner), Number: 2, Count: 3}}
	if got := impl.ScanFrames(list); !slices.Equal(got, want) {
		t.Errorf("ScanFrames = %v instead of %v", got, want)
	}
	// The inner frame is found if the outer one is damaged, and what follows is found, too.
	list[len(outer)-1] ^= 1
	want[0] = impl.Found{At: inside, Next: inside + len(inner), Number: 2, Count: 3}
	if got := impl.ScanFrames(list); !slices.Equal(got, want) {
		t.Errorf("ScanFrames of a damaged frame = %v instead of %v", got, want)
	}
	// Only a beginning of a frame is inside.
	for size := 1; size < len(inner); size++ {
		f := spelling(t, 3, inner[:size])
		list := slices.Concat(slowFrame(f), inner)
		checkScan(t, "a beginning inside a frame", list)
		list[3] ^= 1
		checkScan(t, "a beginning inside a damaged frame", list)
		if got := impl.FindFrame(list, 0); got != len(list)-len(inner) {
			t.Errorf("FindFrame behind a damaged frame = %d", got)
		}
	}
}

// repairExample returns audio with two channels and three frames of the depth 8, and its stream.
func repairExample() (impl.Audio, []int, [][]int) {
	a := impl.Audio{Rate: 8000, Depth: 8, Channels: [][]int{{1, 20, 3, -4, 5, 66, 7}, {1, 19, 3, -5, 5, 64, 9}}}
	return a, headBytes(a, 3), frameParts(a, 3)
}

// silent returns the audio with zeros in frames of block samples.
func silent(a impl.Audio, block int, numbers ...int) impl.Audio {
	b := cloneAudio(a)
	for _, list := range b.Channels {
		for i := range list {
			if slices.Contains(numbers, i/block) {
				list[i] = 0
			}
		}
	}
	return b
}

func TestRepairStreamExamples(t *testing.T) {
	a, head, p := repairExample()
	deep := impl.Audio{Rate: 8000, Depth: 9, Channels: a.Channels}
	one := impl.Audio{Rate: 8000, Depth: 8, Channels: a.Channels[:1]}
	other := impl.Audio{Rate: 8000, Depth: 8, Channels: [][]int{{-9, 8, 7, 6, -5, 4, 3}, {-9, 8, 7, 5, -5, 4, 3}}}
	q := frameParts(other, 3)
	mixed := cloneAudio(a)
	for i := range mixed.Channels {
		copy(mixed.Channels[i][3:6], other.Channels[i][3:6])
	}
	six := slowFrame(impl.Frame{Number: 1, Depth: 8, Channels: [][]int{{1, 2}, {3, 4}}})
	four := slowFrame(impl.Frame{Number: 1, Depth: 8, Channels: [][]int{{1, 2, 3, 4}, {3, 4, 5, 6}}})
	last := slowFrame(impl.Frame{Number: 2, Depth: 8, Channels: [][]int{{1, 2, 3}, {3, 4, 5}}})
	behind := slowFrame(impl.Frame{Number: 3, Depth: 8, Channels: [][]int{{1, 2, 3}, {3, 4, 5}}})
	far := slowFrame(impl.Frame{Number: impl.MaxNumber, Depth: 8, Channels: [][]int{{1}, {3}}})
	for _, c := range []struct {
		what  string
		parts [][]int
		want  impl.Audio
		lost  []int
	}{
		{"a whole stream", p, a, nil},
		{"only the first bytes", nil, silent(a, 3, 0, 1, 2), []int{0, 1, 2}},
		{"the first frame missing", p[1:], silent(a, 3, 0), []int{0}},
		{"the second frame missing", [][]int{p[0], p[2]}, silent(a, 3, 1), []int{1}},
		{"the last frame missing", p[:2], silent(a, 3, 2), []int{2}},
		{"only the last frame", p[2:], silent(a, 3, 0, 1), []int{0, 1}},
		{"a part of the last frame", [][]int{p[0], p[1], p[2][:len(p[2])-1]}, silent(a, 3, 2), []int{2}},
		{"frames in another order", [][]int{p[2], p[0], p[1]}, a, nil},
		{"frames that are there twice", [][]int{p[0], p[0], p[1], p[1], p[2], p[2], p[0]}, a, nil},
		{"another frame behind the same number", [][]int{p[0], p[1], p[2], q[1]}, a, nil},
		{"another frame before the same number", [][]int{q[1], p[0], p[1], p[2]}, mixed, nil},
		{"other bytes between all frames", [][]int{{0}, p[0], {255, 248}, p[1], {255}, p[2], {1, 2, 3}}, a, nil},
		{"a frame of another depth", [][]int{p[0], frameParts(deep, 3)[1], p[2]}, silent(a, 3, 1), []int{1}},
		{"a frame of another depth first", [][]int{frameParts(deep, 3)[1], p[0], p[1], p[2]}, a, nil},
		{"a frame with one channel", [][]int{p[0], frameParts(one, 3)[1], p[2]}, silent(a, 3, 1), []int{1}},
		{"a frame with one channel first", [][]int{frameParts(one, 3)[1], p[0], p[1], p[2]}, a, nil},
		{"a frame with fewer samples", [][]int{p[0], six, p[2]}, silent(a, 3, 1), []int{1}},
		{"a frame with fewer samples first", [][]int{six, p[0], p[1], p[2]}, a, nil},
		{"a frame with more samples", [][]int{p[0], four, p[2]}, silent(a, 3, 1), []int{1}},
		{"a last frame with all samples", [][]int{p[0], p[1], last}, silent(a, 3, 2), []int{2}},
		{"a last frame with all samples first", [][]int{last, p[0], p[1], p[2]}, a, nil},
		{"frames that the stream does not have", [][]int{behind, far, p[0], p[1], p[2], behind, far}, a, nil},
		{"frames without the first bytes again", [][]int{head, p[0], p[1], head, p[2]}, a, nil},
		{"the last frame with the number of another one", [][]int{p[0], p[1], slowFrame(impl.Frame{Number: 1, Depth: 8, Channels: [][]int{{7}, {9}}})}, silent(a, 3, 2), []int{2}},
	} {
		checkRepair(t, c.what, slices.Concat(head, slices.Concat(c.parts...)), c.want, c.lost)
	}
	// Of one channel, a frame of two is not one.
	checkRepair(t, "frames with two channels", slices.Concat(headBytes(one, 3), slices.Concat(p...)), silent(one, 3, 0, 1, 2), []int{0, 1, 2})
	// A block that no frame can have, and frames that fit into one block only.
	checkRepair(t, "another block", slices.Concat(headBytes(a, 7), slices.Concat(p...)), silent(a, 7, 0), []int{0})
	checkRepair(t, "a block of 2", slices.Concat(headBytes(a, 2), slices.Concat(p...)), silent(a, 2, 0, 1, 2, 3), []int{0, 1, 2, 3})
	// The second frame has as many samples as the last one should.
	moved := silent(a, 4, 0, 1)
	for i, list := range a.Channels {
		copy(moved.Channels[i][4:], list[3:6])
	}
	checkRepair(t, "a block of 4", slices.Concat(headBytes(a, 4), slices.Concat(p...)), moved, []int{0})
}

func TestRepairStreamWithoutSamples(t *testing.T) {
	for channels := 1; channels <= 2; channels++ {
		a := impl.Audio{Rate: 8000, Depth: 8, Channels: make([][]int, channels)}
		head := headBytes(a, 3)
		checkRepair(t, "no samples", head, a, nil)
		frame := slowFrame(impl.Frame{Depth: 8, Channels: slices.Repeat([][]int{{1, 2, 3}}, channels)})
		checkRepair(t, "no samples and a frame", append(head, frame...), a, nil)
		checkRepair(t, "no samples and other bytes", append(head, 255, 0, 255), a, nil)
	}
}

func TestRepairStreamUpToTheLimits(t *testing.T) {
	a := impl.Audio{Rate: impl.MaxRate, Depth: 16, Channels: [][]int{make([]int, impl.MaxTotal), make([]int, impl.MaxTotal)}}
	numbers := []int{}
	for number := range impl.MaxTotal {
		numbers = append(numbers, number)
	}
	head := headBytes(a, 1)
	checkRepair(t, "the greatest number of frames", head, a, numbers)
	for _, size := range []int{impl.MaxBytes - 1, impl.MaxBytes} {
		checkRepair(t, "zeros only", append(slices.Clone(head), make([]int, size-len(head))...), a, numbers)
	}
	checkNoRepair(t, "one byte too many", append(slices.Clone(head), make([]int, impl.MaxBytes+1-len(head))...))
	// The last frame of all at the end of the bytes.
	last := slowFrame(impl.Frame{Number: 255, Depth: 16, Channels: [][]int{{-32768}, {32767}}})
	list := append(slices.Clone(head), make([]int, impl.MaxBytes-len(head)-len(last))...)
	a.Channels[0][255], a.Channels[1][255] = -32768, 32767
	checkRepair(t, "only the last frame", append(list, last...), a, numbers[:255])
	checkNoRepair(t, "the last frame behind the limit", append(append(list, 0), last...))
}

func TestRepairStreamOfOtherHeads(t *testing.T) {
	r := rand.New(rand.NewSource(2))
	repaired, not := 0, 0
	for range 6 {
		_, _, list := someStreamUpTo(r, 20)
		for i := range impl.HeadBytes {
			for n := range 256 {
				bad := slices.Clone(list)
				bad[i] = n
				_, _, ok := slowDecode(append(slices.Clone(bad[:9]), 0, 0))
				if !ok || 256*bad[9]+bad[10] > impl.MaxTotal {
					not++
					checkNoRepair(t, "first bytes that are not valid", bad)
					continue
				}
				repaired++
				a, missing := slowRepair(bad)
				checkRepair(t, "other first bytes", bad, a, missing)
			}
		}
	}
	if repaired < 1000 || not < 5000 {
		t.Errorf("%d streams were repaired, and %d were not", repaired, not)
	}
	for _, head := range [][]int{
		{108, 115, 97, 1, 4, 1, 0, 0, 0, 0, 1}, {108, 115, 97, 1, 4, 1, 15, 66, 64, 0, 1}, {108, 115, 97, 1, 4, 1, 0, 0, 1, 1, 1}, {108, 115, 97, 1, 4, 65, 0, 0, 1, 0, 1}, {108, 115, 97, 1, 4, 0, 0, 0, 1, 0, 1},
		{108, 115, 97, 0, 4, 1, 0, 0, 1, 0, 1}, {108, 115, 97, 3, 4, 1, 0, 0, 1, 0, 1}, {108, 115, 97, 1, 3, 1, 0, 0, 1, 0, 1}, {108, 115, 97, 1, 17, 1, 0, 0, 1, 0, 1}, {76, 115, 97, 1, 4, 1, 0, 0, 1, 0, 1},
	} {
		checkNoRepair(t, "first bytes that are not valid", head)
	}
	a := impl.Audio{Rate: impl.MaxRate, Depth: 4, Channels: [][]int{make([]int, 256)}}
	checkRepair(t, "first bytes at the limits", headBytes(a, 64), a, []int{0, 1, 2, 3})
}

func TestRepairStreamFollowsItsDefinition(t *testing.T) {
	r := rand.New(rand.NewSource(3))
	some, all, none := 0, 0, 0
	for range 600 {
		a, block, list := someStreamUpTo(r, 40)
		parts := frameParts(a, block)
		for range r.Intn(4) {
			if len(parts) == 0 {
				break
			}
			i := r.Intn(len(parts))
			switch r.Intn(8) {
			case 0:
				parts[i][r.Intn(len(parts[i]))] ^= 1 + r.Intn(255)
			case 1:
				parts = slices.Delete(parts, i, i+1)
			case 2:
				parts = slices.Insert(parts, i, someBytes(r, r.Intn(20)))
			case 3:
				parts = slices.Insert(parts, i, slices.Clone(parts[r.Intn(len(parts))]))
			case 4:
				f := someFrame(r)
				f.Number = r.Intn(len(parts) + 1)
				parts = slices.Insert(parts, i, slowFrame(f))
			case 5:
				r.Shuffle(len(parts), func(i int, j int) { parts[i], parts[j] = parts[j], parts[i] })
			case 6:
				parts[i] = parts[i][:r.Intn(len(parts[i])+1)]
				if len(parts[i]) == 0 {
					parts = slices.Delete(parts, i, i+1)
				}
			case 7:
				f := impl.Frame{Number: i, Depth: a.Depth}
				for range a.Channels {
					f.Channels = append(f.Channels, someLine(r, block, a.Depth))
				}
				parts = slices.Insert(parts, r.Intn(len(parts)+1), slowFrame(f))
			}
		}
		damaged := slices.Concat(list[:11], slices.Concat(parts...))
		if len(damaged) > impl.MaxBytes {
			continue
		}
		want, missing := slowRepair(damaged)
		checkRepair(t, "a damaged stream", damaged, want, missing)
		switch len(missing) {
		case 0:
			all++
		case frameCount(a, block):
			none++
		default:
			some++
		}
	}
	if some < 100 || all < 100 || none < 20 {
		t.Errorf("no frame is missing %d times, some are %d times, and all are %d times", all, some, none)
	}
}

func TestRepairStreamOfInvalidArguments(t *testing.T) {
	checkNoRepair(t, "an empty list", nil)
	a, head, parts := repairExample()
	list := slices.Concat(head, slices.Concat(parts...))
	for size := range impl.HeadBytes {
		checkNoRepair(t, "too few bytes", list[:size])
	}
	for name, bad := range invalidBytes() {
		checkNoRepair(t, name, bad)
		checkNoRepair(t, name+" behind a head", slices.Concat(head, bad))
		checkNoRepair(t, name+" behind a stream", slices.Concat(list, bad))
	}
	for i := range list {
		for _, n := range append([]int{list[i] + 256, list[i] - 256, -1, 256}, farNumbers...) {
			bad := slices.Clone(list)
			bad[i] = n
			checkNoRepair(t, "a number that is no byte", bad)
		}
	}
	for _, bad := range [][]int{
		{108, 115, 97, 1, 4, 1, 0, 0, 257, 0, 0}, {108, 115, 97, 1, 4, 1, 1, -1, 1, 0, 0}, {108, 115, 97, 1, 4, 1, 0, 1, -255, 0, 0}, {108, 115, 97, 1, 4, 1, 0, 0, 1, 1, -256}, {108, 115, 97, 1, 4, 1, 0, 0, 1, -1, 257},
	} {
		checkNoRepair(t, "numbers that are no bytes", bad)
	}
	checkNoRepair(t, "other bytes before a stream", append([]int{0}, list...))
	checkRepair(t, "a stream", list, a, nil)
}

func TestRepairStreamOfFramesInsideOthers(t *testing.T) {
	// The damaged first frame has another form of the second one inside, which is there before it.
	second := impl.Frame{Number: 1, Depth: 8, Channels: [][]int{{7, 7, 7}}}
	inner := slowFrame(impl.Frame{Number: 1, Depth: 8, Channels: [][]int{{5, 5, 5}}})
	first := spelling(t, 0, inner)
	size := len(first.Channels[0])
	a := impl.Audio{Rate: 8000, Depth: 8, Channels: [][]int{slices.Concat(first.Channels[0], second.Channels[0])}}
	list := slowStream(a, size)
	checkStream(t, "a frame inside another one", list, a, size)
	checkRepair(t, "a frame inside another one", list, a, nil)
	list[11+3] ^= 1
	b := silent(a, size, 0)
	copy(b.Channels[0][size:], []int{5, 5, 5})
	checkRepair(t, "a frame inside a damaged one", list, b, []int{0})
	// If it has another number of samples, it does not count.
	longer := spelling(t, 0, slowFrame(impl.Frame{Number: 1, Depth: 8, Channels: [][]int{{5, 5, 5, 5}}}))
	a = impl.Audio{Rate: 8000, Depth: 8, Channels: [][]int{slices.Concat(longer.Channels[0], second.Channels[0])}}
	list = slowStream(a, len(longer.Channels[0]))
	list[11+3] ^= 1
	checkRepair(t, "a longer frame inside a damaged one", list, silent(a, len(longer.Channels[0]), 0), []int{0})
}

func TestRepairTouchesNothing(t *testing.T) {
	a, head, parts := repairExample()
	was := slices.Concat(head, parts[0], parts[2])
	list := roomy(was)
	if impl.FindFrame(list, 5) != 11 || len(impl.ScanFrames(list)) != 2 {
		t.Error("a frame is not found")
	}
	got, missing, ok := impl.RepairStream(list)
	if !ok || !sameAudio(got, silent(a, 3, 1)) || !slices.Equal(missing, []int{1}) {
		t.Errorf("RepairStream = %v, %v, %v", got, missing, ok)
	}
	right := slices.Clone(got.Channels[1])
	checkUntouched(t, list, was, missing)
	checkUntouched(t, list, was, got.Channels[0])
	if !slices.Equal(got.Channels[1], right) {
		t.Errorf("the second channel became %v", got.Channels[1])
	}
	checkUntouched(t, list, was, got.Channels[1])
	// Silent channels share no memory either.
	got, _, _ = impl.RepairStream(head)
	got.Channels[0][0] = 9
	if got.Channels[1][0] != 0 {
		t.Error("both channels share their memory")
	}
}

func TestP69FramesAreFoundWhereTheyAre(t *testing.T) {
	r := rand.New(rand.NewSource(69))
	found := 0
	for range 100 {
		list := someMixture(r, 60+r.Intn(200))
		for from := range len(list) + 1 {
			at := impl.FindFrame(list, from)
			end := at
			if at < 0 {
				end = len(list)
			} else {
				found++
				if _, _, ok := impl.DecodeFrame(list, at); !ok || at < from {
					t.Errorf("there is no frame at FindFrame(%v, %d) = %d", list, from, at)
				}
			}
			for between := from; between < end; between++ {
				checkNoFrame(t, "a list with a frame behind", list, between)
			}
		}
	}
	if found < 1000 {
		t.Errorf("only %d frames were found", found)
	}
}

func TestP70FoundFramesFollowEachOther(t *testing.T) {
	r := rand.New(rand.NewSource(70))
	found := 0
	for range 300 {
		list := someMixture(r, 60+r.Intn(600))
		end := 0
		for _, one := range impl.ScanFrames(list) {
			found++
			f, next, ok := impl.DecodeFrame(list, one.At)
			if !ok || next != one.Next || f.Number != one.Number || len(f.Channels[0]) != one.Count || one.At < end {
				t.Errorf("ScanFrames(%v) has %v behind %d", list, one, end)
			}
			end = one.Next
		}
	}
	if found < 2000 {
		t.Errorf("only %d frames were found", found)
	}
}

func TestP71WholeStreamsHaveAllFrames(t *testing.T) {
	r := rand.New(rand.NewSource(71))
	for range 300 {
		a, block, list := someStream(r)
		found := impl.ScanFrames(list[impl.HeadBytes:])
		if len(found) != frameCount(a, block) {
			t.Errorf("ScanFrames of a stream of %v with %d = %v", a, block, found)
		}
		for i, one := range found {
			if one.Number != i || one.Count != min(block, len(a.Channels[0])-i*block) {
				t.Errorf("frame %d of a stream of %v with %d is found as %v", i, a, block, one)
			}
		}
	}
}

func TestP72WholeStreamsNeedNoRepair(t *testing.T) {
	r := rand.New(rand.NewSource(72))
	for range 300 {
		a, _, list := someStream(r)
		checkRepair(t, "a whole stream", list, a, nil)
	}
	for _, a := range loudAudios() {
		for _, block := range []int{1, 3, 64} {
			if list, ok := impl.EncodeStream(a, block); ok {
				checkRepair(t, "a whole stream of loud audio", list, a, nil)
			}
		}
	}
}

func TestP73MissingFramesAreSilent(t *testing.T) {
	r := rand.New(rand.NewSource(73))
	lost := 0
	for range 300 {
		a, block, list := someStream(r)
		for range r.Intn(6) {
			if len(list) > impl.HeadBytes {
				list[impl.HeadBytes+r.Intn(len(list)-impl.HeadBytes)] = r.Intn(256)
			}
		}
		if r.Intn(5) == 0 {
			list = list[:impl.HeadBytes+r.Intn(len(list)-impl.HeadBytes+1)]
		}
		got, missing, ok := impl.RepairStream(list)
		if !ok {
			t.Fatalf("RepairStream(%v) fails", list)
		}
		last := -1
		for _, number := range missing {
			lost++
			if number <= last || number >= frameCount(a, block) {
				t.Errorf("RepairStream(%v) misses %v", list, missing)
			}
			last = number
		}
		if !sameAudio(got, silent(got, block, missing...)) {
			t.Errorf("RepairStream(%v) = %v, although %v are missing", list, got, missing)
		}
	}
	if lost < 200 {
		t.Errorf("only %d frames are missing", lost)
	}
}

func TestP74OneDamagedByteLosesOneFrame(t *testing.T) {
	r := rand.New(rand.NewSource(74))
	damaged, more := 0, 0
	for range 60 {
		a, block, list := someStreamUpTo(r, 40)
		before := impl.ScanFrames(list[impl.HeadBytes:])
		for i := impl.HeadBytes; i < len(list); i++ {
			number := slices.IndexFunc(before, func(one impl.Found) bool {
				return i-impl.HeadBytes < one.Next
			})
			for _, n := range []int{1 << r.Intn(8), 255, 1 + r.Intn(255)} {
				bad := slices.Clone(list)
				bad[i] ^= n
				if slices.ContainsFunc(impl.ScanFrames(bad[impl.HeadBytes:]), func(one impl.Found) bool {
					return !slices.Contains(before, one)
				}) {
					more++
					continue
				}
				damaged++
				checkRepair(t, "a stream with a damaged byte", bad, silent(a, block, number), []int{number})
			}
		}
	}
	if damaged < 5000 || more > damaged/100 {
		t.Errorf("%d bytes are damaged, and %d times there are other frames", damaged, more)
	}
}

func TestP155WithoutItsFirstBytesNothingCanBeRepaired(t *testing.T) {
	r := rand.New(rand.NewSource(155))
	for range 20 {
		_, _, list := someStream(r)
		for n := range 256 {
			bad := slices.Clone(list)
			bad[0] = n
			if n != 108 {
				checkNoRepair(t, "a stream with another first letter", bad)
			}
		}
		for size := range impl.HeadBytes {
			checkNoRepair(t, "a part of the first bytes", list[:size])
		}
	}
}

func TestP156FramesAreFoundOneByOne(t *testing.T) {
	r := rand.New(rand.NewSource(156))
	found := 0
	for range 200 {
		list := someMixture(r, 60+r.Intn(600))
		all := impl.ScanFrames(list)
		from := 0
		for _, one := range all {
			found++
			if got := impl.FindFrame(list, from); got != one.At {
				t.Errorf("FindFrame(%v, %d) = %d instead of %d", list, from, got, one.At)
			}
			from = one.Next
		}
		if got := impl.FindFrame(list, from); got != -1 {
			t.Errorf("FindFrame(%v, %d) = %d behind all frames", list, from, got)
		}
	}
	if found < 1500 {
		t.Errorf("only %d frames were found", found)
	}
}
