package tests

import (
	"math/rand"
	"slices"
	"testing"

	"loop.example/losslessaudio/impl"
)

// slowWasted returns the wasted bits of valid samples by their definition.
func slowWasted(list []int) int {
	if allZeros(list) {
		return 0
	}
	k, power := 0, 1
	for !slices.ContainsFunc(list, func(n int) bool { return n%(2*power) != 0 }) {
		k, power = k+1, 2*power
	}
	return k
}

// allZeros reports whether a list has no other numbers.
func allZeros(list []int) bool {
	return !slices.ContainsFunc(list, func(n int) bool { return n != 0 })
}

// someMultiples returns valid samples that are the same in every run and often multiples of a power of 2.
func someMultiples(r *rand.Rand) []int {
	k := r.Intn(17)
	list := smallNumbers(r, r.Intn(impl.MaxBlock+1), r.Intn(impl.MaxSample>>k+1))
	for i := range list {
		list[i] *= 1 << k
	}
	return list
}

func TestWastedBitsExamples(t *testing.T) {
	top := impl.MaxSample
	for _, c := range []struct {
		list []int
		want int
	}{
		{nil, 0}, {[]int{}, 0}, {[]int{0}, 0}, {make([]int, impl.MaxBlock), 0}, {[]int{1}, 0}, {[]int{-1}, 0}, {[]int{2}, 1}, {[]int{-2}, 1}, {[]int{4, 8, -12}, 2},
		{[]int{0, 0, 8}, 3}, {[]int{-8, 0, 0}, 3}, {[]int{8, 9}, 0}, {[]int{-7, 8}, 0}, {[]int{8, 6}, 1}, {[]int{16384}, 14}, {[]int{-16384, 32768}, 14}, {[]int{32768}, 15}, {[]int{-32768, 0}, 15},
		{[]int{top}, 16}, {[]int{-top}, 16}, {[]int{top, 0, -top}, 16}, {[]int{top, 1}, 0}, {[]int{top - 2}, 1}, {slices.Repeat([]int{top}, impl.MaxBlock), 16},
		{append(make([]int, impl.MaxBlock-1), 12), 2},
	} {
		if got := impl.WastedBits(c.list); got != c.want {
			t.Errorf("WastedBits(%v) = %d instead of %d", c.list, got, c.want)
		}
	}
	for name, list := range invalidSamples() {
		if got := impl.WastedBits(list); got != -1 {
			t.Errorf("WastedBits of %s = %d", name, got)
		}
	}
}

func TestWastedBitsFollowsItsDefinition(t *testing.T) {
	r := rand.New(rand.NewSource(1))
	found := map[int]int{}
	for range 2000 {
		list := someMultiples(r)
		want := slowWasted(list)
		if got := impl.WastedBits(list); got != want {
			t.Errorf("WastedBits(%v) = %d instead of %d", list, got, want)
		}
		found[want]++
	}
	if len(found) != 17 {
		t.Errorf("the samples have the wasted bits %v", found)
	}
}

func TestShiftDownExamples(t *testing.T) {
	top := impl.MaxSample
	for _, c := range []struct {
		list []int
		k    int
		want []int
	}{
		{nil, 0, nil}, {nil, impl.MaxShift, nil}, {[]int{5, -3}, 0, []int{5, -3}}, {[]int{4, -12}, 2, []int{1, -3}}, {[]int{4, -12}, 1, []int{2, -6}}, {[]int{-2}, 1, []int{-1}},
		{[]int{0, 0}, 0, []int{0, 0}}, {[]int{0, 0}, impl.MaxShift, []int{0, 0}}, {[]int{top, -top, 0}, impl.MaxShift, []int{4, -4, 0}}, {[]int{top}, 0, []int{top}},
		{make([]int, impl.MaxBlock), 3, make([]int, impl.MaxBlock)},
	} {
		if got, ok := impl.ShiftDown(c.list, c.k); !ok || !slices.Equal(got, c.want) {
			t.Errorf("ShiftDown(%v, %d) = %v, %v instead of %v", c.list, c.k, got, ok, c.want)
		}
	}
	for _, c := range []struct {
		list []int
		k    int
	}{
		{[]int{4, 2}, 2}, {[]int{2, 4}, 2}, {[]int{1}, 1}, {[]int{-1}, 1}, {[]int{-1}, impl.MaxShift}, {[]int{4, -6, 8}, 2}, {[]int{8192}, impl.MaxShift},
		{[]int{top}, impl.MaxShift + 1}, {[]int{0}, impl.MaxShift + 1}, {nil, impl.MaxShift + 1}, {nil, -1}, {[]int{0}, -1}, {[]int{4}, -1}, {[]int{0}, 63}, {[]int{0}, 64}, {nil, 64},
	} {
		if got, ok := impl.ShiftDown(c.list, c.k); ok || len(got) > 0 {
			t.Errorf("ShiftDown(%v, %d) = %v, %v", c.list, c.k, got, ok)
		}
	}
}

func TestShiftUpExamples(t *testing.T) {
	top := impl.MaxSample
	for _, c := range []struct {
		list []int
		k    int
		want []int
	}{
		{nil, 0, nil}, {nil, impl.MaxShift, nil}, {[]int{5, -3}, 0, []int{5, -3}}, {[]int{1, -3}, 2, []int{4, -12}}, {[]int{0, 0}, impl.MaxShift, []int{0, 0}},
		{[]int{4, -4, 0}, impl.MaxShift, []int{top, -top, 0}}, {[]int{top, -top}, 0, []int{top, -top}}, {[]int{top / 2, -top / 2}, 1, []int{top, -top}},
		{make([]int, impl.MaxBlock), 3, make([]int, impl.MaxBlock)},
	} {
		if got, ok := impl.ShiftUp(c.list, c.k); !ok || !slices.Equal(got, c.want) {
			t.Errorf("ShiftUp(%v, %d) = %v, %v instead of %v", c.list, c.k, got, ok, c.want)
		}
	}
	for _, c := range []struct {
		list []int
		k    int
	}{
		{[]int{5}, impl.MaxShift}, {[]int{-5}, impl.MaxShift}, {[]int{top}, 1}, {[]int{-top}, 1}, {[]int{0, top/2 + 1}, 1}, {[]int{-top/2 - 1, 0}, 1}, {[]int{top}, impl.MaxShift},
		{[]int{0}, impl.MaxShift + 1}, {nil, impl.MaxShift + 1}, {nil, -1}, {[]int{0}, -1}, {[]int{4}, -1}, {[]int{1}, 15}, {[]int{1}, 63}, {[]int{1}, 64}, {nil, 64},
	} {
		if got, ok := impl.ShiftUp(c.list, c.k); ok || len(got) > 0 {
			t.Errorf("ShiftUp(%v, %d) = %v, %v", c.list, c.k, got, ok)
		}
	}
}

func TestShiftsOfInvalidArguments(t *testing.T) {
	for name, list := range invalidSamples() {
		for k := range impl.MaxShift + 1 {
			if got, ok := impl.ShiftDown(list, k); ok || len(got) > 0 {
				t.Errorf("ShiftDown of %s by %d = %v, %v", name, k, got, ok)
			}
			if got, ok := impl.ShiftUp(list, k); ok || len(got) > 0 {
				t.Errorf("ShiftUp of %s by %d = %v, %v", name, k, got, ok)
			}
		}
	}
	for _, far := range farNumbers {
		if got, ok := impl.ShiftDown([]int{0}, far); ok || len(got) > 0 {
			t.Errorf("ShiftDown by %d = %v, %v", far, got, ok)
		}
		if got, ok := impl.ShiftUp([]int{0}, far); ok || len(got) > 0 {
			t.Errorf("ShiftUp by %d = %v, %v", far, got, ok)
		}
		for k := range impl.MaxShift + 1 {
			if got, ok := impl.ShiftDown([]int{far}, k); ok || len(got) > 0 {
				t.Errorf("ShiftDown of %d by %d = %v, %v", far, k, got, ok)
			}
			if got, ok := impl.ShiftUp([]int{far}, k); ok || len(got) > 0 {
				t.Errorf("ShiftUp of %d by %d = %v, %v", far, k, got, ok)
			}
		}
	}
}

func TestWastedBitsTouchNothing(t *testing.T) {
	was := []int{4, -8, 0, 12}
	for k := range 3 {
		list := roomy(was)
		impl.WastedBits(list)
		down, _ := impl.ShiftDown(list, k)
		checkUntouched(t, list, was, down)
		up, _ := impl.ShiftUp(list, k)
		checkUntouched(t, list, was, up)
	}
}

func TestP50WastedBitsCanBeTakenAway(t *testing.T) {
	r := rand.New(rand.NewSource(50))
	taken := 0
	for range 2000 {
		list := someMultiples(r)
		k := impl.WastedBits(list)
		if k > impl.MaxShift {
			continue
		}
		if k > 0 {
			taken++
		}
		less, ok := impl.ShiftDown(list, k)
		if !ok || len(less) != len(list) || impl.WastedBits(less) != 0 {
			t.Errorf("ShiftDown(%v, %d) = %v, %v", list, k, less, ok)
		}
		if got, ok := impl.ShiftUp(less, k); !ok || !slices.Equal(got, list) {
			t.Errorf("ShiftUp(%v, %d) = %v, %v", less, k, got, ok)
		}
	}
	if taken < 1000 {
		t.Errorf("only %d lists have wasted bits", taken)
	}
}

func TestP51NoMoreBitsAreWasted(t *testing.T) {
	r := rand.New(rand.NewSource(51))
	for range 2000 {
		list := someMultiples(r)
		for k := range impl.MaxShift + 1 {
			got, ok := impl.ShiftDown(list, k)
			if wanted := k <= impl.WastedBits(list) || allZeros(list); ok != wanted || !ok && len(got) > 0 {
				t.Errorf("ShiftDown(%v, %d) = %v, %v", list, k, got, ok)
			}
		}
	}
}

func TestP52ShiftsCanBeUndone(t *testing.T) {
	r := rand.New(rand.NewSource(52))
	shifted := 0
	for range 2000 {
		list, k := someMultiples(r), r.Intn(impl.MaxShift+1)
		less, ok := impl.ShiftDown(list, k)
		if !ok {
			continue
		}
		shifted++
		if got, ok := impl.ShiftUp(less, k); !ok || !slices.Equal(got, list) {
			t.Errorf("ShiftUp of ShiftDown(%v, %d) = %v, %v", list, k, got, ok)
		}
	}
	if shifted < 1000 {
		t.Errorf("only %d lists were shifted", shifted)
	}
}

func TestP53ShiftsAddBits(t *testing.T) {
	r := rand.New(rand.NewSource(53))
	shifted := 0
	for range 2000 {
		list, k := someSamples(r, r.Intn(8)), r.Intn(impl.MaxShift+1)
		greater, ok := impl.ShiftUp(list, k)
		if !ok {
			continue
		}
		shifted++
		if got, ok := impl.ShiftDown(greater, k); !ok || !slices.Equal(got, list) {
			t.Errorf("ShiftDown of ShiftUp(%v, %d) = %v, %v", list, k, got, ok)
		}
		if got := impl.WastedBits(greater); !allZeros(list) && got != impl.WastedBits(list)+k || allZeros(list) && got != 0 {
			t.Errorf("WastedBits of ShiftUp(%v, %d) = %d", list, k, got)
		}
	}
	if shifted < 700 {
		t.Errorf("only %d lists were shifted", shifted)
	}
}

func TestP135ShiftsAddUp(t *testing.T) {
	r := rand.New(rand.NewSource(135))
	shifted := 0
	for range 2000 {
		list, k := someSamples(r, r.Intn(8)), r.Intn(impl.MaxShift)
		less, ok := impl.ShiftUp(list, k)
		if !ok {
			continue
		}
		twice, ok := impl.ShiftUp(less, 1)
		once, ok2 := impl.ShiftUp(list, k+1)
		if ok != ok2 || !slices.Equal(twice, once) {
			t.Errorf("ShiftUp(%v, %d) and then by 1 = %v, %v instead of %v, %v", list, k, twice, ok, once, ok2)
		}
		if ok {
			shifted++
		}
	}
	if shifted < 700 {
		t.Errorf("only %d lists were shifted", shifted)
	}
}
