package tests

import (
	"math/rand"
	"slices"
	"testing"

	"loop.example/losslessaudio/impl"
)

// differences returns each number minus the one before it, order times.
func differences(list []int, order int) []int {
	for range order {
		next := []int{}
		for i := 1; i < len(list); i++ {
			next = append(next, list[i]-list[i-1])
		}
		list = next
	}
	return slices.Clone(list)
}

// lastNumbers returns the last numbers of a list, none if there are none to be taken.
func lastNumbers(list []int, count int) []int {
	return list[len(list)-max(0, count):]
}

// slowOrder returns the best order of a fixed predictor by its definition, and how many orders are as good.
func slowOrder(list []int) (int, int) {
	best, least, ties := -1, 0, 0
	for order := 0; order <= 4 && order <= len(list); order++ {
		sum := 0
		for _, n := range lastNumbers(differences(list, order), len(list)-4) {
			if n < 0 {
				n = -n
			}
			sum += n
		}
		if best < 0 || sum < least {
			best, least, ties = order, sum, 0
		} else if sum == least {
			ties++
		}
	}
	return best, ties
}

func TestLimitsOfFixedPredictors(t *testing.T) {
	if impl.MaxBlock != 64 || impl.MaxSample != 65536 || impl.MaxFixed != 4 {
		t.Error("a limit is wrong")
	}
}

func TestFixedResidualExamples(t *testing.T) {
	top := impl.MaxSample
	for _, c := range []struct {
		list  []int
		order int
		want  []int
	}{
		{nil, 0, nil}, {[]int{}, 0, nil}, {[]int{-7}, 0, []int{-7}}, {[]int{5, -3}, 0, []int{5, -3}},
		{[]int{5}, 1, nil}, {[]int{5, -3}, 1, []int{-8}}, {[]int{5, -3}, 2, nil},
		{[]int{1, 3, 6, 10}, 1, []int{2, 3, 4}}, {[]int{1, 3, 6, 10}, 2, []int{1, 1}},
		{[]int{1, 3, 6, 10}, 3, []int{0}}, {[]int{1, 3, 6, 10}, 4, nil}, {[]int{0, 0, 0, 0, 1}, 4, []int{1}},
		{[]int{1, 0, 0, 0, 0}, 4, []int{1}}, {[]int{0, 1, 0, 0, 0}, 4, []int{-4}}, {[]int{0, 0, 1, 0, 0}, 4, []int{6}},
		{[]int{top, -top, top, -top, top}, 4, []int{16 * top}}, {[]int{-top, top, -top, top}, 3, []int{8 * top}},
	} {
		if got := impl.FixedResidual(c.list, c.order); !slices.Equal(got, c.want) {
			t.Errorf("FixedResidual(%v, %d) = %v instead of %v", c.list, c.order, got, c.want)
		}
	}
}

func TestFixedResidualFollowsItsDefinition(t *testing.T) {
	r := rand.New(rand.NewSource(1))
	for count := range impl.MaxBlock + 1 {
		for order := range impl.MaxFixed + 1 {
			list := someSamples(r, count)
			got, want := impl.FixedResidual(list, order), differences(list, order)
			if order > count {
				want = nil
			}
			if !slices.Equal(got, want) {
				t.Errorf("FixedResidual(%v, %d) = %v instead of %v", list, order, got, want)
			}
		}
	}
}

func TestFixedResidualOfInvalidArguments(t *testing.T) {
	list := []int{1, 2, 4, 8, 16, 32, 64}
	for _, order := range append([]int{-1, -4, 5, 6, 7, 8}, farNumbers...) {
		if got := impl.FixedResidual(list, order); len(got) > 0 {
			t.Errorf("FixedResidual of order %d = %v", order, got)
		}
	}
	for count := range impl.MaxFixed {
		if got := impl.FixedResidual(list[:count], count+1); len(got) > 0 {
			t.Errorf("FixedResidual of %d samples with one order more = %v", count, got)
		}
	}
	for name, list := range invalidSamples() {
		for order := range impl.MaxFixed + 1 {
			if got := impl.FixedResidual(list, order); len(got) > 0 {
				t.Errorf("FixedResidual of %s, order %d, = %v", name, order, got)
			}
		}
	}
}

func TestFixedRestoreExamples(t *testing.T) {
	top := impl.MaxSample
	for _, c := range []struct {
		warm, residual, want []int
	}{
		{nil, nil, nil}, {nil, []int{5, -3}, []int{5, -3}}, {[]int{5}, nil, []int{5}}, {[]int{1, 2, 3, 5}, nil, []int{1, 2, 3, 5}},
		{[]int{1}, []int{2, 3, 4}, []int{1, 3, 6, 10}}, {[]int{1, 3}, []int{1, 1}, []int{1, 3, 6, 10}},
		{[]int{1, 3, 6}, []int{0}, []int{1, 3, 6, 10}}, {[]int{0, 0, 0, 0}, []int{1}, []int{0, 0, 0, 0, 1}},
		{nil, []int{top, -top}, []int{top, -top}}, {[]int{top}, []int{-2 * top}, []int{top, -top}},
		{[]int{top - 1}, []int{1}, []int{top - 1, top}}, {[]int{1 - top}, []int{-1}, []int{1 - top, -top}},
		{[]int{top, -top, top, -top}, []int{16 * top}, []int{top, -top, top, -top, top}},
	} {
		if got, ok := impl.FixedRestore(c.warm, c.residual); !ok || !slices.Equal(got, c.want) {
			t.Errorf("FixedRestore(%v, %v) = %v, %v instead of %v", c.warm, c.residual, got, ok, c.want)
		}
	}
}

func TestFixedRestoreOfSamplesOutOfRange(t *testing.T) {
	top := impl.MaxSample
	for _, c := range [][2][]int{
		{nil, {top + 1}}, {nil, {-top - 1}}, {nil, {0, impl.MaxResidual}}, {nil, {-impl.MaxResidual}},
		{{top}, {1}}, {{-top}, {-1}}, {{0}, {top, 1}}, {{0}, {0, 0, -top - 1}}, {{0}, {impl.MaxResidual}},
		// The sample after the one out of range would be in it again.
		{{top}, {1, -1}}, {{-top}, {-1, 1}}, {{0}, {impl.MaxResidual, -impl.MaxResidual}},
		{{0, top}, {1 - top}}, {{0, 1}, {0, top}}, {{0, 0, 0}, {top, 0}}, {{0, 0, 0, 0}, {top, 0}},
		{{top, -top, top, -top}, {16*top + 1}}, {{0, 0, 0, 0}, {impl.MaxResidual}},
	} {
		if got, ok := impl.FixedRestore(c[0], c[1]); ok || len(got) > 0 {
			t.Errorf("FixedRestore(%v, %v) = %v, %v", c[0], c[1], got, ok)
		}
	}
}

func TestFixedRestoreUpToMaxBlock(t *testing.T) {
	for order := range impl.MaxFixed + 1 {
		warm, residual := make([]int, order), make([]int, impl.MaxBlock-order)
		if got, ok := impl.FixedRestore(warm, residual); !ok || !slices.Equal(got, make([]int, impl.MaxBlock)) {
			t.Errorf("FixedRestore of MaxBlock samples, order %d, = %v, %v", order, got, ok)
		}
		if got, ok := impl.FixedRestore(warm, append(residual, 0)); ok || len(got) > 0 {
			t.Errorf("FixedRestore of one sample too many, order %d, = %v, %v", order, got, ok)
		}
		if got, ok := impl.FixedRestore(warm, make([]int, impl.MaxBlock)); ok != (order == 0) || !ok && len(got) > 0 {
			t.Errorf("FixedRestore of MaxBlock numbers, order %d, = %v, %v", order, got, ok)
		}
	}
}

func TestFixedRestoreOfInvalidArguments(t *testing.T) {
	for count := impl.MaxFixed + 1; count < 12; count++ {
		for _, residual := range [][]int{nil, {0}} {
			if got, ok := impl.FixedRestore(make([]int, count), residual); ok || len(got) > 0 {
				t.Errorf("FixedRestore of order %d = %v, %v", count, got, ok)
			}
		}
	}
	for _, n := range append([]int{impl.MaxSample + 1, -impl.MaxSample - 1}, farNumbers...) {
		for _, c := range [][2][]int{{{n}, nil}, {{n}, {0}}, {{n}, {-n}}, {{0, n}, {0}}, {{n, n, n, n}, {0}}, {nil, {n}}, {{0}, {n}}, {{0, 0}, {n, -n}}} {
			if got, ok := impl.FixedRestore(c[0], c[1]); ok || len(got) > 0 {
				t.Errorf("FixedRestore(%v, %v) = %v, %v", c[0], c[1], got, ok)
			}
		}
	}
	for name, list := range invalidSamples() {
		if got, ok := impl.FixedRestore(list, nil); ok || len(got) > 0 {
			t.Errorf("FixedRestore behind %s = %v, %v", name, got, ok)
		}
	}
	for name, residual := range invalidResiduals() {
		for order := range impl.MaxFixed + 1 {
			if got, ok := impl.FixedRestore(make([]int, order), residual); ok || len(got) > 0 {
				t.Errorf("FixedRestore of %s, order %d, = %v, %v", name, order, got, ok)
			}
		}
	}
}

func TestBestFixedExamples(t *testing.T) {
	for _, c := range []struct {
		list []int
		want int
	}{
		{nil, 0}, {[]int{}, 0}, {[]int{9}, 0}, {[]int{9, 9}, 0}, {[]int{1, 2, 3, 4}, 0},
		{[]int{7, 7, 7, 7, 7}, 1}, {[]int{0, 5, 10, 15, 20, 25, 30}, 2}, {[]int{0, 1, 4, 9, 16, 25, 36}, 3},
		{[]int{0, 1, 8, 27, 64, 125, 216}, 4}, {[]int{0, 0, 0, 0, 0, 0}, 0}, {[]int{5, -5, 5, -5, 5, -5}, 0},
		// Orders 0 and 1 are as good as each other, and then 1 and 2.
		{[]int{0, 0, 0, 0, 1}, 0}, {[]int{0, 0, 0, 4, 2}, 0}, {[]int{0, 0, 6, 8, 10, 8}, 1},
		// What the first samples cost does not count.
		{[]int{-60000, 60000, -60000, 60000, 60000}, 1}, {[]int{90, 0, 1, 2, 3}, 2}, {[]int{0, 90, 90, 90, 0}, 0},
	} {
		if got := impl.BestFixed(c.list); got != c.want {
			t.Errorf("BestFixed(%v) = %d instead of %d", c.list, got, c.want)
		}
	}
	for name, list := range invalidSamples() {
		if got := impl.BestFixed(list); got != -1 {
			t.Errorf("BestFixed of %s = %d", name, got)
		}
	}
}

func TestBestFixedFollowsItsDefinition(t *testing.T) {
	r := rand.New(rand.NewSource(2))
	found, tied := map[int]int{}, 0
	for i := range 4000 {
		list := someSamples(r, r.Intn(impl.MaxBlock+1))
		if i%2 == 1 {
			list = smallNumbers(r, 5+r.Intn(5), 4)
			for range r.Intn(4) {
				for j := 1; j < len(list); j++ {
					list[j] += list[j-1]
				}
			}
		}
		want, ties := slowOrder(list)
		if got := impl.BestFixed(list); got != want {
			t.Errorf("BestFixed(%v) = %d instead of %d", list, got, want)
		}
		found[want]++
		if ties > 0 && len(list) > 4 {
			tied++
		}
	}
	if len(found) != impl.MaxFixed+1 || tied < 50 {
		t.Errorf("the samples have the orders %v and %d ties", found, tied)
	}
}

func TestFixedPredictorsTouchNothing(t *testing.T) {
	for order := range impl.MaxFixed + 1 {
		list := roomy([]int{3, 1, 4, 1, 5, 9})
		was := slices.Clone(list)
		checkUntouched(t, list, was, impl.FixedResidual(list, order))
		impl.BestFixed(list)
		checkUntouched(t, list, was, nil)
		warm, residual := roomy(was[:order]), roomy([]int{2, 7, 1})
		samples, _ := impl.FixedRestore(warm, residual)
		checkUntouched(t, warm, was[:order], samples)
		checkUntouched(t, residual, []int{2, 7, 1}, samples)
		samples, _ = impl.FixedRestore(warm, nil)
		checkUntouched(t, warm, was[:order], samples)
	}
}

func TestP21OrdersAreDifferencesOfOrders(t *testing.T) {
	r := rand.New(rand.NewSource(21))
	for range 300 {
		list := someSamples(r, 4+r.Intn(impl.MaxBlock-3))
		for order := 1; order <= impl.MaxFixed; order++ {
			// Small enough that the residual of the order before is valid samples, too.
			for i := range list {
				list[i] %= 8192
			}
			before := impl.FixedResidual(list, order-1)
			got, want := impl.FixedResidual(list, order), impl.FixedResidual(before, 1)
			if len(got) != len(list)-order || !slices.Equal(got, want) {
				t.Errorf("FixedResidual(%v, %d) = %v instead of %v", list, order, got, want)
			}
		}
	}
}

func TestP22ConstantsDoNotMatter(t *testing.T) {
	r := rand.New(rand.NewSource(22))
	for range 300 {
		list := someSamples(r, 4+r.Intn(impl.MaxBlock-3))
		more := slices.Clone(list)
		for i := range list {
			list[i] = min(list[i], impl.MaxSample-1)
			more[i] = list[i] + 1
		}
		for order := 1; order <= impl.MaxFixed; order++ {
			got, want := impl.FixedResidual(more, order), impl.FixedResidual(list, order)
			if len(got) != len(list)-order || !slices.Equal(got, want) {
				t.Errorf("FixedResidual(%v, %d) = %v instead of %v", more, order, got, want)
			}
		}
	}
}

func TestP23RestoredSamplesHaveTheResidual(t *testing.T) {
	r := rand.New(rand.NewSource(23))
	restored := 0
	for range 2000 {
		order := r.Intn(impl.MaxFixed + 1)
		warm := smallNumbers(r, order, 1000)
		residual := smallNumbers(r, r.Intn(20), 1+r.Intn(3000))
		list, ok := impl.FixedRestore(warm, residual)
		if !ok {
			continue
		}
		restored++
		if len(list) != order+len(residual) || !slices.Equal(list[:order], warm) || !slices.Equal(impl.FixedResidual(list, order), residual) {
			t.Errorf("FixedRestore(%v, %v) = %v", warm, residual, list)
		}
	}
	if restored < 1000 {
		t.Errorf("only %d residuals were restored", restored)
	}
}

func TestP24StraightLinesWantOrder2(t *testing.T) {
	r := rand.New(rand.NewSource(24))
	for range 500 {
		line := make([]int, r.Intn(impl.MaxBlock+1))
		start, step := r.Intn(2001)-1000, r.Intn(2001)-1000
		for i := range line {
			line[i] = start + i*step
		}
		if got := impl.BestFixed(line); got < 0 || got > 2 {
			t.Errorf("BestFixed(%v) = %d", line, got)
		}
		list := someSamples(r, r.Intn(impl.MaxBlock+1))
		if got := impl.BestFixed(list); got < 0 || got > impl.MaxFixed || got > len(list) {
			t.Errorf("BestFixed(%v) = %d", list, got)
		}
	}
}

func TestP25SignsDoNotMatter(t *testing.T) {
	r := rand.New(rand.NewSource(25))
	for range 500 {
		list := someSamples(r, r.Intn(impl.MaxBlock+1))
		if got, want := impl.BestFixed(negated(list)), impl.BestFixed(list); got != want {
			t.Errorf("BestFixed(%v) = %d, with the other signs %d", list, want, got)
		}
	}
}

func TestP36ResidualsRestoreSamples(t *testing.T) {
	r := rand.New(rand.NewSource(36))
	for count := range impl.MaxBlock + 1 {
		for order := 0; order <= impl.MaxFixed && order <= count; order++ {
			list := someSamples(r, count)
			got, ok := impl.FixedRestore(list[:order], impl.FixedResidual(list, order))
			if !ok || !slices.Equal(got, list) {
				t.Errorf("FixedRestore of order %d = %v, %v instead of %v", order, got, ok, list)
			}
		}
	}
}

func TestP130WithoutAResidualSamplesStay(t *testing.T) {
	for _, n := range []int{0, 1, -1, 77, impl.MaxSample, -impl.MaxSample} {
		for count := range impl.MaxBlock {
			got, ok := impl.FixedRestore([]int{n}, make([]int, count))
			if !ok || !slices.Equal(got, slices.Repeat([]int{n}, count+1)) {
				t.Errorf("FixedRestore of %d and %d zeros = %v, %v", n, count, got, ok)
			}
		}
	}
}
