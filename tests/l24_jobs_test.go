package tests

import (
	"math/rand"
	"runtime"
	"slices"
	"sync"
	"testing"
	"time"

	"loop.example/losslessaudio/impl"
)

// slowPlan returns the ranges of frames of workers, each end of which is found by counting.
func slowPlan(frames int, workers int) []impl.Job {
	end := func(i int) int {
		n := 0
		for (n+1)*workers <= i*frames {
			n++
		}
		return n
	}
	jobs := []impl.Job{}
	for i := range workers {
		jobs = append(jobs, impl.Job{From: end(i), To: end(i + 1)})
	}
	return jobs
}

// slowJob returns the bytes of the frames of a job by their definition, of which there may be more than MaxBytes.
func slowJob(a impl.Audio, block int, j impl.Job) []int {
	return slices.Concat(frameParts(a, block)[j.From:j.To]...)
}

// checkPlan fails if the ranges of workers are not the wanted ones.
func checkPlan(t *testing.T, frames int, workers int, want []impl.Job) {
	t.Helper()
	if got := impl.PlanJobs(frames, workers); !slices.Equal(got, want) {
		t.Errorf("PlanJobs(%d, %d) = %v instead of %v", frames, workers, got, want)
	}
}

// checkJob fails if the bytes of a job are not the wanted ones.
func checkJob(t *testing.T, a impl.Audio, block int, j impl.Job, want []int) {
	t.Helper()
	if got, ok := impl.EncodeJob(a, block, j); !ok || !slices.Equal(got, want) {
		t.Errorf("EncodeJob(%v, %d, %v) = %v, %v instead of %v", a, block, j, got, ok, want)
	}
}

// checkNoJob fails if a job has bytes.
func checkNoJob(t *testing.T, what string, a impl.Audio, block int, j impl.Job) {
	t.Helper()
	if got, ok := impl.EncodeJob(a, block, j); ok || len(got) > 0 {
		t.Errorf("EncodeJob of %s, %v, %d, %v = %v, %v", what, a, block, j, got, ok)
	}
}

// checkMerge fails if parts are not the wanted stream.
func checkMerge(t *testing.T, what string, a impl.Audio, block int, parts [][]int, want []int) {
	t.Helper()
	if got, ok := impl.MergeJobs(a, block, parts); !ok || !slices.Equal(got, want) {
		t.Errorf("MergeJobs of %s, %v, %d, %v = %v, %v instead of %v", what, a, block, parts, got, ok, want)
	}
}

// checkNoMerge fails if parts are a stream.
func checkNoMerge(t *testing.T, what string, a impl.Audio, block int, parts [][]int) {
	t.Helper()
	if got, ok := impl.MergeJobs(a, block, parts); ok || len(got) > 0 {
		t.Errorf("MergeJobs of %s, %v, %d, %v = %v, %v", what, a, block, parts, got, ok)
	}
}

// jobExample returns audio with a block for which it has 4 frames, and the bytes of each frame.
func jobExample() (impl.Audio, int, [][]int) {
	a := audioOf(8, []int{1, -2, 3, 100, -128, 127, 0, 5, 6, 7}, []int{0, 0, 7, 127, -1, -1, 1, 2, 3, 4})
	return a, 3, frameParts(a, 3)
}

func TestLimitsOfJobs(t *testing.T) {
	if impl.MaxWorkers != 8 {
		t.Error("a limit is wrong")
	}
}

func TestPlanJobsExamples(t *testing.T) {
	for _, c := range []struct {
		frames, workers int
		want            []impl.Job
	}{
		{5, 3, []impl.Job{{From: 0, To: 1}, {From: 1, To: 3}, {From: 3, To: 5}}},
		{0, 1, []impl.Job{{}}},
		{0, 3, []impl.Job{{}, {}, {}}},
		{1, 1, []impl.Job{{From: 0, To: 1}}},
		{1, 2, []impl.Job{{From: 0, To: 0}, {From: 0, To: 1}}},
		{2, 4, []impl.Job{{From: 0, To: 0}, {From: 0, To: 1}, {From: 1, To: 1}, {From: 1, To: 2}}},
		{7, 8, []impl.Job{{}, {From: 0, To: 1}, {From: 1, To: 2}, {From: 2, To: 3}, {From: 3, To: 4}, {From: 4, To: 5}, {From: 5, To: 6}, {From: 6, To: 7}}},
		{256, 1, []impl.Job{{From: 0, To: 256}}},
		{256, 3, []impl.Job{{From: 0, To: 85}, {From: 85, To: 170}, {From: 170, To: 256}}},
		{255, 2, []impl.Job{{From: 0, To: 127}, {From: 127, To: 255}}},
	} {
		checkPlan(t, c.frames, c.workers, c.want)
	}
}

func TestPlanJobsFollowsItsDefinition(t *testing.T) {
	for frames := range impl.MaxTotal + 1 {
		for workers := 1; workers <= 8; workers++ {
			checkPlan(t, frames, workers, slowPlan(frames, workers))
		}
	}
}

func TestPlanJobsOfInvalidArguments(t *testing.T) {
	others := append([]int{-256, -8, -1}, farNumbers...)
	for _, frames := range append([]int{257, 258, 512, 65536}, others...) {
		for workers := -1; workers <= 9; workers++ {
			checkPlan(t, frames, workers, nil)
		}
	}
	for _, workers := range append([]int{0, 9, 10, 16, 256}, others...) {
		for _, frames := range append([]int{0, 1, 8, 9, 255, 256, 257}, others...) {
			checkPlan(t, frames, workers, nil)
		}
	}
}

func TestEncodeJobExamples(t *testing.T) {
	a, block, parts := jobExample()
	for from := range 5 {
		for to := from; to <= 4; to++ {
			checkJob(t, a, block, impl.Job{From: from, To: to}, slices.Concat(parts[from:to]...))
		}
	}
	if got, _ := impl.EncodeJob(a, block, impl.Job{From: 3, To: 4}); len(got) < 5 || got[3] != 0 || got[4] != 3 {
		t.Errorf("the last frame has not one sample and the number 3: %v", got)
	}
	for _, j := range []impl.Job{
		{From: 0, To: 5}, {From: 3, To: 5}, {From: 4, To: 5}, {From: 5, To: 5}, {From: 5, To: 6}, {From: 0, To: 10}, {From: -1, To: 0}, {From: -1, To: 2}, {From: -1, To: 4}, {From: -1, To: -1},
		{From: 0, To: -1}, {From: 1, To: 0}, {From: 2, To: 1}, {From: 4, To: 3}, {From: 4, To: 0}, {From: 5, To: 4}, {From: 4, To: -4}, {From: -2, To: -1},
	} {
		checkNoJob(t, "frames that are not there", a, block, j)
	}
	for _, n := range farNumbers {
		for _, m := range append([]int{-1, 0, 2, 4, 5}, farNumbers...) {
			checkNoJob(t, "far frames", a, block, impl.Job{From: n, To: m})
			checkNoJob(t, "far frames", a, block, impl.Job{From: m, To: n})
		}
	}
}

func TestJobsOfAudioWithoutSamples(t *testing.T) {
	for _, a := range []impl.Audio{audioOf(8, nil), audioOf(16, nil, []int{})} {
		for _, block := range []int{1, 2, 64} {
			checkJob(t, a, block, impl.Job{}, nil)
			for _, j := range []impl.Job{{From: 0, To: 1}, {From: 1, To: 1}, {From: -1, To: 0}, {From: 0, To: -1}, {From: 1, To: 0}} {
				checkNoJob(t, "no samples", a, block, j)
			}
			for count := range 9 {
				checkMerge(t, "no samples", a, block, make([][]int, count), headBytes(a, block))
			}
			checkNoMerge(t, "no samples and too many parts", a, block, make([][]int, 9))
			checkNoMerge(t, "no samples and a byte", a, block, [][]int{{0}})
			checkNoMerge(t, "no samples and a frame", a, block, [][]int{nil, slowFrame(impl.Frame{Depth: a.Depth, Channels: slices.Repeat([][]int{{0}}, len(a.Channels))})})
		}
	}
}

func TestJobsOf256Frames(t *testing.T) {
	list := make([]int, impl.MaxTotal)
	list[200] = 1
	a := audioOf(4, list)
	whole := slowStream(a, 1)
	if frameCount(a, 1) != 256 || len(whole) < impl.MaxBytes {
		t.Fatalf("%d frames have %d bytes", frameCount(a, 1), len(whole))
	}
	// Not all of so many frames fit into a job.
	checkNoJob(t, "all frames", a, 1, impl.Job{From: 0, To: 256})
	fits := 0
	for n := 0; n < 256; n += 5 {
		for _, j := range []impl.Job{{From: 0, To: n}, {From: n, To: 256}, {From: 256 - n/2, To: 256}, {From: n / 2, To: n}} {
			want := slowJob(a, 1, j)
			if len(want) > impl.MaxBytes {
				checkNoJob(t, "many frames", a, 1, j)
				continue
			}
			fits++
			checkJob(t, a, 1, j, want)
		}
	}
	if fits < 100 {
		t.Errorf("only %d jobs fit", fits)
	}
	checkJob(t, a, 1, impl.Job{From: 256, To: 256}, nil)
	checkNoJob(t, "one frame more", a, 1, impl.Job{From: 255, To: 257})
	checkNoJob(t, "one frame more", a, 1, impl.Job{From: 257, To: 257})
}

// framesOfSize returns audio with a block for which all frames together have as many bytes as wanted; both are the same in every run.
func framesOfSize(t *testing.T, r *rand.Rand, size int) (impl.Audio, int) {
	t.Helper()
	for range 2000 {
		a, block := impl.Audio{Rate: 1, Depth: 16}, 2+r.Intn(5)
		for range 2 {
			a.Channels = append(a.Channels, inWidth(smallNumbers(r, impl.MaxTotal, 1<<r.Intn(16)), 16))
		}
		length := 0
		for number := 0; number < frameCount(a, block) && length < size; number++ {
			part, _ := impl.EncodeFrame(frameAt(a, block, number))
			length += len(part)
			if length == size {
				return slowCut(a, 0, min((number+1)*block, impl.MaxTotal)), block
			}
		}
	}
	t.Fatalf("no frames have %d bytes", size)
	return impl.Audio{}, 0
}

func TestJobsUpToMaxBytes(t *testing.T) {
	r := rand.New(rand.NewSource(1))
	for size := impl.MaxBytes - impl.HeadBytes - 1; size <= impl.MaxBytes+2; size++ {
		a, block := framesOfSize(t, r, size)
		parts := frameParts(a, block)
		whole := slices.Concat(parts...)
		if len(whole) != size {
			t.Fatalf("the frames have %d bytes instead of %d", len(whole), size)
		}
		all := impl.Job{From: 0, To: len(parts)}
		// The first bytes of a stream are no part of a job.
		if size > impl.MaxBytes {
			checkNoJob(t, "too many bytes", a, block, all)
		} else {
			checkJob(t, a, block, all, whole)
		}
		half := len(parts) / 2
		halves := [][]int{slices.Concat(parts[:half]...), slices.Concat(parts[half:]...)}
		checkJob(t, a, block, impl.Job{From: 0, To: half}, halves[0])
		checkJob(t, a, block, impl.Job{From: half, To: len(parts)}, halves[1])
		if impl.HeadBytes+size > impl.MaxBytes {
			checkNoMerge(t, "too many bytes", a, block, halves)
		} else {
			checkMerge(t, "many bytes", a, block, halves, slowStream(a, block))
		}
	}
}

func TestJobsOfInvalidArguments(t *testing.T) {
	for name, a := range invalidAudios() {
		for _, block := range []int{0, 1, 3, impl.MaxBlock} {
			checkNoJob(t, name, a, block, impl.Job{})
			checkNoJob(t, name, a, block, impl.Job{From: 0, To: 1})
			checkNoMerge(t, name, a, block, nil)
			checkNoMerge(t, name, a, block, [][]int{{0}})
		}
	}
	for _, a := range append(loudAudios(), audioOf(8, []int{1, 2, 3})) {
		for _, block := range append([]int{-64, -1, 0, impl.MaxBlock + 1, 256}, farNumbers...) {
			checkNoJob(t, "another block", a, block, impl.Job{})
			checkNoJob(t, "another block", a, block, impl.Job{From: 0, To: 1})
			checkNoMerge(t, "another block", a, block, nil)
			checkNoMerge(t, "another block", a, block, frameParts(a, impl.MaxBlock))
		}
		for _, block := range []int{1, impl.MaxBlock - 1, impl.MaxBlock} {
			checkJob(t, a, block, impl.Job{}, nil)
		}
	}
}

func TestMergeJobsExamples(t *testing.T) {
	a, block, parts := jobExample()
	want := slowStream(a, block)
	all := slices.Concat(parts...)
	for name, good := range map[string][][]int{
		"all frames": parts, "one part": {all}, "two parts": {slices.Concat(parts[:2]...), slices.Concat(parts[2:]...)}, "eight parts": {nil, parts[0], {}, parts[1], nil, parts[2], parts[3], nil},
		"seven empty parts in front": {nil, nil, nil, nil, nil, nil, nil, all}, "seven empty parts behind": {all, {}, {}, {}, {}, {}, {}, {}},
		// Parts need not end with a frame.
		"parts of frames": {all[:1], all[1:5], all[5:20], all[20:]},
	} {
		checkMerge(t, name, a, block, good, want)
	}
	for name, bad := range map[string][][]int{
		"no parts": nil, "no parts at all": {}, "empty parts": {nil, nil}, "a part too few": parts[:3], "a part too few at the beginning": parts[1:], "a part too few in between": {parts[0], parts[1], parts[3]},
		"another order": {parts[1], parts[0], parts[2], parts[3]}, "the reverse order": {parts[3], parts[2], parts[1], parts[0]}, "a part twice": {parts[0], parts[1], parts[1], parts[2], parts[3]},
		"everything twice": {all, all}, "the last part twice": {all, parts[3]}, "the stream": {want}, "the head and the frames": {want[:11], all},
		"nine parts": {nil, parts[0], {}, parts[1], nil, parts[2], parts[3], nil, nil}, "nine parts, the first one of which is empty": {nil, all, nil, nil, nil, nil, nil, nil, nil},
		"many parts": append([][]int{all}, make([][]int, 1000)...), "one byte more": {all, {0}}, "one byte less": {all[:len(all)-1]}, "one byte in front": {{255}, all}, "without the first byte": {all[1:]},
	} {
		checkNoMerge(t, name, a, block, bad)
	}
}

func TestMergeJobsOfOtherBytes(t *testing.T) {
	a, block, parts := jobExample()
	for i, part := range parts {
		for k := range part {
			for _, n := range []int{part[k] ^ 1, part[k] ^ 128, part[k] + 256, part[k] - 256, -1, 256, farNumbers[0], farNumbers[5]} {
				bad := slices.Clone(part)
				bad[k] = n
				if n != part[k] {
					checkNoMerge(t, "a damaged part", a, block, slices.Concat(parts[:i], [][]int{bad}, parts[i+1:]))
				}
			}
		}
	}
	for name, bad := range invalidBytes() {
		checkNoMerge(t, name, a, block, slices.Concat(parts, [][]int{bad}))
		checkNoMerge(t, name+" in front", a, block, slices.Concat([][]int{bad}, parts))
		checkNoMerge(t, name+" for audio without samples", audioOf(8, nil), block, [][]int{bad})
	}
}

func TestMergeJobsOfOtherAudio(t *testing.T) {
	a, block, parts := jobExample()
	for name, b := range map[string]impl.Audio{
		"another depth": {Rate: 8000, Depth: 9, Channels: a.Channels}, "one channel": audioOf(8, a.Channels[0]), "exchanged channels": audioOf(8, a.Channels[1], a.Channels[0]),
		"no samples": audioOf(8, nil, nil), "one sample less": slowCut(a, 0, 9), "one frame less": slowCut(a, 0, 9), "frames less": slowCut(a, 0, 6), "one sample more": audioOf(8, append(slices.Clone(a.Channels[0]), 0), append(slices.Clone(a.Channels[1]), 0)),
		"the reverse order": backward(a),
	} {
		checkNoMerge(t, name, b, block, parts)
	}
	for i := range a.Channels {
		for k := range a.Channels[i] {
			b := cloneAudio(a)
			b.Channels[i][k] ^= 1
			checkNoMerge(t, "another sample", b, block, parts)
		}
	}
	for other := 1; other <= impl.MaxBlock; other++ {
		if other != block {
			checkNoMerge(t, "another block", a, other, parts)
		}
	}
	// The rate is in the first bytes only.
	faster := impl.Audio{Rate: 8001, Depth: 8, Channels: a.Channels}
	checkMerge(t, "another rate", faster, block, parts, slowStream(faster, block))
}

func TestJobsFollowTheirDefinition(t *testing.T) {
	r := rand.New(rand.NewSource(2))
	for range 150 {
		a, block, list := someStream(r)
		count := frameCount(a, block)
		from := r.Intn(count + 1)
		j := impl.Job{From: from, To: from + r.Intn(count-from+1)}
		checkJob(t, a, block, j, slowJob(a, block, j))
		// Parts that end anywhere.
		rest, parts := list[impl.HeadBytes:], [][]int{}
		for range r.Intn(8) {
			size := r.Intn(len(rest) + 1)
			parts, rest = append(parts, rest[:size]), rest[size:]
		}
		checkMerge(t, "parts", a, block, append(parts, rest), list)
		if len(rest) > 0 {
			checkNoMerge(t, "a part too few", a, block, parts)
		}
	}
}

func TestJobsTouchNothing(t *testing.T) {
	left, right := roomy([]int{1, -2, 3, 4, 5}), roomy([]int{-4, 5, -6, 7, -8})
	a := audioOf(4, left, right)
	was := cloneAudio(a)
	for _, j := range []impl.Job{{From: 0, To: 3}, {From: 1, To: 2}, {From: 1, To: 1}} {
		list, ok := impl.EncodeJob(a, 2, j)
		if !ok || !slices.Equal(list, slowJob(was, 2, j)) {
			t.Errorf("EncodeJob = %v, %v", list, ok)
		}
		checkUntouched(t, left, was.Channels[0], list)
		checkUntouched(t, right, was.Channels[1], nil)
	}
	forms := frameParts(was, 2)
	parts := [][]int{roomy(forms[0]), roomy(forms[1]), roomy(forms[2]), {77}}[:3]
	list, ok := impl.MergeJobs(a, 2, parts)
	if !ok || !slices.Equal(list, slowStream(was, 2)) {
		t.Errorf("MergeJobs = %v, %v", list, ok)
	}
	for i, part := range parts {
		checkUntouched(t, part, forms[i], list)
	}
	checkUntouched(t, left, was.Channels[0], list)
	checkUntouched(t, right, was.Channels[1], list)
	if spare := parts[:4][3]; len(spare) != 1 || spare[0] != 77 {
		t.Error("the spare capacity of the parts was written")
	}
	// The only part is not the result.
	alone := roomy(slices.Concat(forms...))
	list, _ = impl.MergeJobs(a, 2, [][]int{alone})
	checkUntouched(t, alone, slices.Concat(forms...), list)
}

func TestWorkersHaveNoPartInTheResult(t *testing.T) {
	r := rand.New(rand.NewSource(3))
	a := someAudioOf(r, 200)
	want := slowJob(a, 7, impl.Job{From: 3, To: 25})
	before := runtime.NumGoroutine()
	var all sync.WaitGroup
	for range 20 {
		all.Go(func() {
			for range 10 {
				checkJob(t, a, 7, impl.Job{From: 3, To: 25}, want)
			}
		})
	}
	all.Wait()
	// All workers have ended, but the last ones may still be on their way out.
	for range 1000 {
		if runtime.NumGoroutine() <= before {
			return
		}
		time.Sleep(time.Millisecond)
	}
	t.Errorf("%d workers are left", runtime.NumGoroutine()-before)
}

func TestP114WorkersShareAllFrames(t *testing.T) {
	for frames := range impl.MaxTotal + 1 {
		for workers := 1; workers <= impl.MaxWorkers; workers++ {
			jobs := impl.PlanJobs(frames, workers)
			if len(jobs) != workers {
				t.Fatalf("PlanJobs(%d, %d) = %v", frames, workers, jobs)
			}
			at := 0
			for _, j := range jobs {
				if j.From != at || j.To < j.From {
					t.Errorf("PlanJobs(%d, %d) = %v", frames, workers, jobs)
				}
				at = j.To
			}
			if at != frames {
				t.Errorf("PlanJobs(%d, %d) ends with %d", frames, workers, at)
			}
		}
	}
}

func TestP115WorkIsSharedFairly(t *testing.T) {
	for frames := range impl.MaxTotal + 1 {
		for workers := 1; workers <= impl.MaxWorkers; workers++ {
			sizes := []int{}
			for _, j := range impl.PlanJobs(frames, workers) {
				sizes = append(sizes, j.To-j.From)
			}
			if len(sizes) != workers || slices.Max(sizes)-slices.Min(sizes) > 1 {
				t.Errorf("PlanJobs(%d, %d) has jobs of %v frames", frames, workers, sizes)
			}
		}
	}
}

func TestP116JobsCanBeDivided(t *testing.T) {
	r := rand.New(rand.NewSource(116))
	for range 150 {
		a, block, _ := someStreamUpTo(r, 60)
		count := frameCount(a, block)
		for range 5 {
			places := []int{r.Intn(count + 1), r.Intn(count + 1), r.Intn(count + 1)}
			slices.Sort(places)
			first, ok := impl.EncodeJob(a, block, impl.Job{From: places[0], To: places[1]})
			second, fine := impl.EncodeJob(a, block, impl.Job{From: places[1], To: places[2]})
			if !ok || !fine {
				t.Errorf("EncodeJob of %v, %d, %v fails", a, block, places)
			}
			checkJob(t, a, block, impl.Job{From: places[0], To: places[2]}, slices.Concat(first, second))
		}
	}
}

func TestP117AllFramesAreTheStream(t *testing.T) {
	r := rand.New(rand.NewSource(117))
	for range 300 {
		a, block, list := someStream(r)
		checkJob(t, a, block, impl.Job{From: 0, To: frameCount(a, block)}, list[impl.HeadBytes:])
	}
}

// mergedJobs returns what MergeJobs makes of the jobs of some workers.
func mergedJobs(t *testing.T, a impl.Audio, block int, workers int) ([]int, bool) {
	t.Helper()
	parts := [][]int{}
	for _, j := range impl.PlanJobs(frameCount(a, block), workers) {
		part, ok := impl.EncodeJob(a, block, j)
		if !ok {
			t.Fatalf("EncodeJob(%v, %d, %v) fails", a, block, j)
		}
		parts = append(parts, part)
	}
	return impl.MergeJobs(a, block, parts)
}

func TestP118ParallelWorkMakesTheSameStream(t *testing.T) {
	r := rand.New(rand.NewSource(118))
	for range 80 {
		a, block, list := someStream(r)
		for workers := 1; workers <= impl.MaxWorkers; workers++ {
			if got, ok := mergedJobs(t, a, block, workers); !ok || !slices.Equal(got, list) {
				t.Errorf("the stream of %v, %d that %d workers make is %v, %v instead of %v", a, block, workers, got, ok, list)
			}
		}
	}
	for _, a := range loudAudios() {
		if got, ok := mergedJobs(t, a, impl.MaxBlock, 8); !ok || !slices.Equal(got, slowStream(a, impl.MaxBlock)) {
			t.Errorf("the stream of %v is %v, %v", a, got, ok)
		}
	}
}

func TestP152OneWorkerDoesEverything(t *testing.T) {
	for frames := range impl.MaxTotal + 1 {
		checkPlan(t, frames, 1, []impl.Job{{From: 0, To: frames}})
	}
}
