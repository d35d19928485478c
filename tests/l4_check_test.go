package tests

import (
	"math/rand"
	"slices"
	"testing"

	"loop.example/losslessaudio/impl"
)

// slowCheck forms a check step by step, as the document describes it.
func slowCheck(list []int, factor int, limit int, other int) int {
	n := 0
	for _, c := range list {
		n ^= factor * c
		for range 8 {
			n *= 2
			if n > limit {
				n ^= other
			}
		}
	}
	return n
}

// check is one of both checks, with its bytes.
type check struct {
	name  string
	of    func(list []int) int
	bytes func(n int) []int
}

var checks = []check{
	{"Crc8", impl.Crc8, func(n int) []int { return []int{n} }},
	{"Crc16", impl.Crc16, func(n int) []int { return []int{n / 256, n % 256} }},
}

func TestCheckExamples(t *testing.T) {
	text := []int{49, 50, 51, 52, 53, 54, 55, 56, 57}
	for _, c := range []struct {
		list          []int
		short, longer int
	}{
		{nil, 0, 0}, {[]int{}, 0, 0}, {[]int{0}, 0, 0}, {[]int{1}, 7, 32773}, {[]int{2}, 14, 32783}, {[]int{255}, 243, 514},
		{text, 244, 65256},
	} {
		if got := impl.Crc8(c.list); got != c.short {
			t.Errorf("Crc8(%v) = %d instead of %d", c.list, got, c.short)
		}
		if got := impl.Crc16(c.list); got != c.longer {
			t.Errorf("Crc16(%v) = %d instead of %d", c.list, got, c.longer)
		}
	}
}

func TestChecksFollowTheirDefinition(t *testing.T) {
	r := rand.New(rand.NewSource(1))
	lists := [][]int{slices.Repeat([]int{255}, impl.MaxBytes), make([]int, impl.MaxBytes)}
	for n := range 256 {
		lists = append(lists, []int{n}, []int{n, 255 - n}, someBytes(r, n), someBytes(r, 8*n))
	}
	lists = append(lists, someBytes(r, impl.MaxBytes))
	for _, list := range lists {
		if got, want := impl.Crc8(list), slowCheck(list, 1, 255, 263); got != want {
			t.Errorf("Crc8 of %d bytes = %d instead of %d", len(list), got, want)
		}
		if got, want := impl.Crc16(list), slowCheck(list, 256, 65535, 98309); got != want {
			t.Errorf("Crc16 of %d bytes = %d instead of %d", len(list), got, want)
		}
	}
}

func TestChecksOfInvalidLists(t *testing.T) {
	for _, c := range checks {
		for name, list := range invalidBytes() {
			if got := c.of(list); got != -1 {
				t.Errorf("%s of %s = %d", c.name, name, got)
			}
		}
	}
}

func TestChecksTouchNothing(t *testing.T) {
	for _, c := range checks {
		list := roomy([]int{1, 2, 3})
		c.of(list)
		checkUntouched(t, list, []int{1, 2, 3}, nil)
	}
}

// checkEnds tests that bytes with their check have the check 0, and that a changed byte changes it.
func checkEnds(t *testing.T, c check, r *rand.Rand) {
	for range 500 {
		list := someBytes(r, r.Intn(40))
		n := c.of(list)
		if got := c.of(slices.Concat(list, c.bytes(n))); got != 0 {
			t.Errorf("%s of %v with its check = %d", c.name, list, got)
		}
		if len(list) == 0 {
			continue
		}
		changed := slices.Clone(list)
		changed[r.Intn(len(list))] ^= 1 + r.Intn(255)
		if c.of(changed) == n {
			t.Errorf("%s of %v is that of %v", c.name, list, changed)
		}
	}
}

func TestP18BytesWithTheirCheckHaveTheCheckZero(t *testing.T) {
	checkEnds(t, checks[0], rand.New(rand.NewSource(18)))
}

func TestP19LongerChecksEndWithTwoBytes(t *testing.T) {
	checkEnds(t, checks[1], rand.New(rand.NewSource(19)))
}

func TestP20LeadingZerosDoNotCount(t *testing.T) {
	r := rand.New(rand.NewSource(20))
	for _, c := range checks {
		for range 200 {
			list := someBytes(r, r.Intn(40))
			behind := append(make([]int, r.Intn(40)), list...)
			if c.of(behind) != c.of(list) {
				t.Errorf("%s of %v is not that of %v", c.name, behind, list)
			}
		}
	}
}

func TestP129ChecksAreLinear(t *testing.T) {
	r := rand.New(rand.NewSource(129))
	for _, c := range checks {
		for range 200 {
			a := someBytes(r, r.Intn(40))
			b := someBytes(r, len(a))
			both := slices.Clone(a)
			for i := range both {
				both[i] ^= b[i]
			}
			if c.of(both) != c.of(a)^c.of(b) {
				t.Errorf("%s of %v is not that of %v and %v", c.name, both, a, b)
			}
		}
	}
}
