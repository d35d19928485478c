package tests

import (
	"math/rand"
	"slices"
	"testing"

	"loop.example/losslessaudio/impl"
)

// formLimits are the numbers from which on a number has one more byte.
var formLimits = []int{128, 2048, 65536, 2097152, 67108864}

// someNumbers returns numbers of all sizes, with those at the limits.
func someNumbers(r *rand.Rand) []int {
	list := []int{0, 1, 126, 127, 128, 129, impl.MaxNumber - 1, impl.MaxNumber}
	for _, limit := range formLimits {
		list = append(list, limit-1, limit, limit+1)
	}
	for range 500 {
		list = append(list, numberBelow(r, 31))
	}
	return list
}

func TestLimitOfNumbers(t *testing.T) {
	if impl.MaxNumber != 2147483647 {
		t.Error("a limit is wrong")
	}
}

func TestNumberExamples(t *testing.T) {
	for n, want := range map[int][]int{
		0:              {0},
		127:            {127},
		128:            {194, 128},
		2047:           {223, 191},
		2048:           {224, 160, 128},
		65535:          {239, 191, 191},
		65536:          {240, 144, 128, 128},
		2097151:        {247, 191, 191, 191},
		2097152:        {248, 136, 128, 128, 128},
		67108863:       {251, 191, 191, 191, 191},
		67108864:       {252, 132, 128, 128, 128, 128},
		1073741824:     {253, 128, 128, 128, 128, 128},
		impl.MaxNumber: {253, 191, 191, 191, 191, 191},
	} {
		if got := impl.EncodeNumber(n); !slices.Equal(got, want) {
			t.Errorf("EncodeNumber(%d) = %v instead of %v", n, got, want)
		}
		if got, next, ok := impl.DecodeNumber(want, 0); !ok || got != n || next != len(want) {
			t.Errorf("DecodeNumber(%v) = %d, %d, %v", want, got, next, ok)
		}
	}
	for _, n := range append([]int{-1, -128, impl.MaxNumber + 1}, farNumbers...) {
		if got := impl.EncodeNumber(n); len(got) > 0 {
			t.Errorf("EncodeNumber(%d) = %v", n, got)
		}
	}
}

func TestDecodeNumberOfBytesThatAreNone(t *testing.T) {
	for _, list := range [][]int{
		{}, {128}, {191}, {128, 128}, {254, 128}, {255}, {254, 191, 191, 191, 191, 191, 191}, {255, 191, 191, 191, 191, 191, 191, 191},
		// Numbers that have a shorter form.
		{192, 128}, {193, 191}, {224, 128, 128}, {224, 159, 191}, {240, 128, 128, 128}, {240, 143, 191, 191},
		{248, 128, 128, 128, 128}, {248, 135, 191, 191, 191}, {252, 128, 128, 128, 128, 128}, {252, 131, 191, 191, 191, 191},
		// Bytes that do not follow a first one.
		{194, 127}, {195, 127}, {225, 128, 127}, {194, 192}, {195, 192}, {194, 64}, {194, 0}, {194, 255}, {224, 160, 64}, {224, 60, 128}, {240, 144, 128, 192},
		{252, 132, 128, 128, 128, 0}, {252, 132, 128, 200, 128, 128},
	} {
		if n, next, ok := impl.DecodeNumber(list, 0); ok || n != 0 || next != 0 {
			t.Errorf("DecodeNumber(%v) = %d, %d, %v", list, n, next, ok)
		}
	}
}

func TestDecodeNumberWithoutItsLastBytes(t *testing.T) {
	for _, limit := range append(slices.Clone(formLimits), impl.MaxNumber) {
		list := impl.EncodeNumber(limit)
		for size := range list {
			if n, next, ok := impl.DecodeNumber(list[:size], 0); ok || n != 0 || next != 0 {
				t.Errorf("DecodeNumber(%v) = %d, %d, %v", list[:size], n, next, ok)
			}
			// The missing bytes are in the spare capacity, where they do not count.
			behind := append([]int{7, 7, 7}, list...)[:3+size]
			if n, next, ok := impl.DecodeNumber(behind, 3); ok || n != 0 || next != 0 {
				t.Errorf("DecodeNumber(%v, 3) = %d, %d, %v", behind, n, next, ok)
			}
		}
	}
}

func TestDecodeNumberAtPlaces(t *testing.T) {
	list := []int{7, 194, 128, 9}
	for at, want := range map[int][2]int{0: {7, 1}, 1: {128, 3}, 3: {9, 4}} {
		if n, next, ok := impl.DecodeNumber(list, at); !ok || n != want[0] || next != want[1] {
			t.Errorf("DecodeNumber at %d = %d, %d, %v", at, n, next, ok)
		}
	}
	for _, at := range append([]int{-1, 2, 4, 5}, farNumbers...) {
		if n, next, ok := impl.DecodeNumber(list, at); ok || n != 0 || next != 0 {
			t.Errorf("DecodeNumber at %d = %d, %d, %v", at, n, next, ok)
		}
	}
}

func TestDecodeNumberOfListsOfMaxBytes(t *testing.T) {
	list := make([]int, impl.MaxBytes)
	copy(list[impl.MaxBytes-2:], impl.EncodeNumber(128))
	if n, next, ok := impl.DecodeNumber(list, impl.MaxBytes-2); !ok || n != 128 || next != impl.MaxBytes {
		t.Errorf("DecodeNumber at the last place = %d, %d, %v", n, next, ok)
	}
	for name, list := range invalidBytes() {
		// The invalid byte need not belong to the number.
		for at := range min(len(list), 3) {
			if n, next, ok := impl.DecodeNumber(list, at); ok || n != 0 || next != 0 {
				t.Errorf("DecodeNumber of %s at %d = %d, %d, %v", name, at, n, next, ok)
			}
		}
	}
}

func TestNumbersShareNoMemory(t *testing.T) {
	list := impl.EncodeNumber(70000)
	list[0] = 0
	if got := impl.EncodeNumber(70000); got[0] != 240 {
		t.Errorf("EncodeNumber(70000) = %v after a change of its result", got)
	}
	given := roomy([]int{194, 128, 7})
	impl.DecodeNumber(given, 0)
	checkUntouched(t, given, []int{194, 128, 7}, nil)
}

func TestP15NumbersCanBeRead(t *testing.T) {
	r := rand.New(rand.NewSource(15))
	list := someNumbers(r)
	slices.Sort(list)
	size := 1
	for _, n := range list {
		code := impl.EncodeNumber(n)
		if len(code) < size {
			t.Errorf("%d has %d bytes, a smaller number has %d", n, len(code), size)
		}
		size = len(code)
		if got, next, ok := impl.DecodeNumber(code, 0); !ok || got != n || next != size {
			t.Errorf("DecodeNumber of EncodeNumber(%d) = %d, %d, %v", n, got, next, ok)
		}
		before := someBytes(r, r.Intn(5))
		all := slices.Concat(before, code, someBytes(r, r.Intn(5)))
		if got, next, ok := impl.DecodeNumber(all, len(before)); !ok || got != n || next != len(before)+size {
			t.Errorf("DecodeNumber(%v, %d) = %d, %d, %v", all, len(before), got, next, ok)
		}
	}
}

func TestP16NoEncodingIsTheBeginningOfAnotherOne(t *testing.T) {
	for _, n := range someNumbers(rand.New(rand.NewSource(16))) {
		for i, c := range impl.EncodeNumber(n) {
			if inside := c >= 128 && c <= 191; inside != (i > 0) {
				t.Errorf("EncodeNumber(%d) has %d at %d", n, c, i)
			}
		}
	}
}

func TestP17EveryNumberHasOneEncoding(t *testing.T) {
	r := rand.New(rand.NewSource(17))
	read := 0
	for range 100000 {
		list := []int{r.Intn(256)}
		for range 6 {
			list = append(list, 128+r.Intn(66))
		}
		// Many of these have too many zeros in front.
		list[1] = 128 + numberBelow(r, 6)
		n, next, ok := impl.DecodeNumber(list, 0)
		if !ok {
			continue
		}
		read++
		if !slices.Equal(impl.EncodeNumber(n), list[:next]) {
			t.Fatalf("DecodeNumber(%v) = %d, %d", list, n, next)
		}
	}
	if read < 10000 {
		t.Errorf("only %d numbers were read", read)
	}
}
