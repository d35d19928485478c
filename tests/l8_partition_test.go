package tests

import (
	"math/rand"
	"slices"
	"strings"
	"testing"

	"loop.example/losslessaudio/impl"
)

// slowSizes returns the sizes of partitions by their definition.
func slowSizes(count int, order int, p int) []int {
	if p < 0 || p > 3 || order < 0 || order > 8 || count < 0 || count > 64-order {
		return nil
	}
	parts := []int{1, 2, 4, 8}[p]
	size := (count + order) / parts
	if size*parts != count+order || size-order < 0 {
		return nil
	}
	sizes := []int{size - order}
	for len(sizes) < parts {
		sizes = append(sizes, size)
	}
	return sizes
}

// riceText returns a Rice code formed without the program, and true if there is one.
func riceText(n int, k int) (string, bool) {
	z := 2 * n
	if n < 0 {
		z = -2*n - 1
	}
	if z>>k > impl.MaxUnary {
		return "", false
	}
	return unaryText(z>>k) + textOfNumber(z, k), true
}

// widthOf returns the smallest width that has all numbers, by its definition.
func widthOf(list []int) int {
	if !slices.ContainsFunc(list, func(n int) bool { return n != 0 }) {
		return 0
	}
	for width := 1; ; width++ {
		half := 1 << (width - 1)
		if slices.Min(list) >= -half && slices.Max(list) <= half-1 {
			return width
		}
	}
}

// escapeText returns a partition with Escape and a width that may be too small or greater than needed.
func escapeText(list []int, width int) string {
	text := "1111" + textOfNumber(width, 5)
	for _, n := range list {
		text += textOfNumber(n, width)
	}
	return text
}

// partitionText returns a partition with a parameter, and true if all numbers have a code.
func partitionText(list []int, k int) (string, bool) {
	if k == 15 {
		return escapeText(list, widthOf(list)), true
	}
	text := textOfNumber(k, 4)
	for _, n := range list {
		code, ok := riceText(n, k)
		if !ok {
			return "", false
		}
		text += code
	}
	return text, true
}

// slowParameter returns the best parameter of a valid residual by its definition, and the partition.
func slowParameter(list []int) (int, string) {
	best, shortest := -1, ""
	for k := 0; k <= 15; k++ {
		text, ok := partitionText(list, k)
		if ok && (best < 0 || len(text) < len(shortest)) {
			best, shortest = k, text
		}
	}
	return best, shortest
}

// divided returns the partitions of a list.
func divided(list []int, sizes []int) [][]int {
	parts := [][]int{}
	for _, size := range sizes {
		parts = append(parts, list[:size])
		list = list[size:]
	}
	return parts
}

// slowResidual returns the bits of a valid residual by their definition, and true if there are such partitions.
func slowResidual(list []int, order int, p int) (string, bool) {
	sizes := slowSizes(len(list), order, p)
	if sizes == nil {
		return "", false
	}
	text := textOfNumber(p, 2)
	for _, part := range divided(list, sizes) {
		_, partition := slowParameter(part)
		text += partition
	}
	return text, true
}

// slowPartition returns the best exponent for a valid residual by its definition, and how many exponents are as good.
func slowPartition(list []int, order int) (int, int) {
	best, least, ties := -1, 0, 0
	for p := 0; p <= 3; p++ {
		text, ok := slowResidual(list, order, p)
		if !ok {
			continue
		}
		if best < 0 || len(text) < least {
			best, least, ties = p, len(text), 0
		} else if len(text) == least {
			ties++
		}
	}
	return best, ties
}

// takenNumber returns the number of the first bits of a text, and the rest of it.
func takenNumber(text string, width int) (int, string, bool) {
	if width > len(text) {
		return 0, "", false
	}
	n := 0
	for _, c := range text[:width] {
		n = 2*n + int(c-'0')
	}
	return n, text[width:], true
}

// takenRice returns the signed number of the Rice code at the beginning of a text, and the rest of it.
func takenRice(text string, k int) (int, string, bool) {
	high := strings.Index(text, "1")
	if high < 0 || high > impl.MaxUnary {
		return 0, "", false
	}
	low, rest, ok := takenNumber(text[high+1:], k)
	z := high*(1<<k) + low
	if z%2 == 1 {
		return -(z + 1) / 2, rest, ok
	}
	return z / 2, rest, ok
}

// takenSigned returns the signed number in width bits at the beginning of a text, and the rest of it.
func takenSigned(text string, width int) (int, string, bool) {
	n, rest, ok := takenNumber(text, width)
	if ok && width > 0 && text[0] == '1' {
		n -= 1 << width
	}
	return n, rest, ok
}

// takenPartition returns the numbers of the partition at the beginning of a text, and the rest of it.
func takenPartition(text string, size int) ([]int, string, bool) {
	k, text, ok := takenNumber(text, 4)
	take, width := takenRice, k
	if ok && k == 15 {
		width, text, ok = takenNumber(text, 5)
		take = takenSigned
	}
	list := []int{}
	for range size {
		if !ok {
			return nil, "", false
		}
		var n int
		n, text, ok = take(text, width)
		if n < -impl.MaxResidual || n > impl.MaxResidual {
			return nil, "", false
		}
		list = append(list, n)
	}
	return list, text, ok
}

// takenResidual returns the residual at the beginning of a text, and the rest of it.
func takenResidual(text string, count int, order int) ([]int, string, bool) {
	p, text, ok := takenNumber(text, 2)
	sizes := slowSizes(count, order, p)
	if !ok || sizes == nil {
		return nil, "", false
	}
	list := []int{}
	for _, size := range sizes {
		var part []int
		if part, text, ok = takenPartition(text, size); !ok {
			return nil, "", false
		}
		list = append(list, part...)
	}
	return list, text, true
}

// someResidual returns a valid residual that is the same in every run, with runs of numbers of all sizes, some of them zeros.
func someResidual(r *rand.Rand, count int) []int {
	list := []int{}
	for len(list) < count {
		size, run := min(r.Intn(1<<r.Intn(24)), impl.MaxResidual), 1+r.Intn(20)
		switch r.Intn(8) {
		case 0:
			list = append(list, slices.Repeat([]int{size}, run)...)
		case 1:
			list = append(list, slices.Repeat([]int{impl.MaxResidual, -impl.MaxResidual}, run)...)
		default:
			list = append(list, smallNumbers(r, run, size)...)
		}
	}
	return list[:count]
}

// somePlace returns an order, and a count for which p is often possible.
func somePlace(r *rand.Rand) (int, int) {
	order := r.Intn(impl.MaxOrder + 1)
	total := 8 * r.Intn(9)
	if r.Intn(4) == 0 {
		total = r.Intn(impl.MaxBlock + 1)
	}
	return order, max(0, total-order)
}

// checkNoResidual fails if DecodeResidual finds a residual.
func checkNoResidual(t *testing.T, what string, b impl.Bits, at int, count int, order int) {
	t.Helper()
	if list, next, ok := impl.DecodeResidual(b, at, count, order); ok || len(list) > 0 || next != 0 {
		t.Errorf("DecodeResidual of %s, %d, %d, %d = %v, %d, %v", what, at, count, order, list, next, ok)
	}
}

func TestLimitsOfPartitions(t *testing.T) {
	if impl.MaxPartition != 3 || impl.Escape != 15 {
		t.Error("a limit is wrong")
	}
}

func TestPartitionSizesExamples(t *testing.T) {
	for _, c := range []struct {
		count, order, p int
		want            []int
	}{
		{0, 0, 0, []int{0}}, {0, 0, 1, []int{0, 0}}, {0, 0, 3, make([]int, 8)}, {5, 0, 0, []int{5}}, {5, 0, 1, nil}, {5, 1, 1, []int{2, 3}},
		{0, 8, 0, []int{0}}, {0, 8, 1, nil}, {8, 8, 1, []int{0, 8}}, {7, 8, 1, nil}, {6, 8, 1, nil}, {24, 8, 2, []int{0, 8, 8, 8}}, {20, 8, 2, nil},
		{56, 8, 3, []int{0, 8, 8, 8, 8, 8, 8, 8}}, {48, 8, 3, nil}, {60, 4, 3, []int{4, 8, 8, 8, 8, 8, 8, 8}},
		{64, 0, 0, []int{64}}, {64, 0, 3, []int{8, 8, 8, 8, 8, 8, 8, 8}}, {7, 1, 3, []int{0, 1, 1, 1, 1, 1, 1, 1}}, {4, 4, 2, nil}, {6, 2, 3, nil},
	} {
		if got := impl.PartitionSizes(c.count, c.order, c.p); !slices.Equal(got, c.want) {
			t.Errorf("PartitionSizes(%d, %d, %d) = %v instead of %v", c.count, c.order, c.p, got, c.want)
		}
	}
}

func TestPartitionSizesFollowsItsDefinition(t *testing.T) {
	for count := -9; count <= 80; count++ {
		for order := -9; order <= 17; order++ {
			for p := -2; p <= 7; p++ {
				if got, want := impl.PartitionSizes(count, order, p), slowSizes(count, order, p); !slices.Equal(got, want) {
					t.Errorf("PartitionSizes(%d, %d, %d) = %v instead of %v", count, order, p, got, want)
				}
			}
		}
	}
	for _, n := range append([]int{63, 64, -64}, farNumbers...) {
		for _, c := range [][3]int{{0, 0, n}, {0, n, 0}, {n, 8, 0}, {-n, n, 0}, {n, -n, 1}, {n, n, n}} {
			if got, want := impl.PartitionSizes(c[0], c[1], c[2]), slowSizes(c[0], c[1], c[2]); !slices.Equal(got, want) {
				t.Errorf("PartitionSizes(%d, %d, %d) = %v instead of %v", c[0], c[1], c[2], got, want)
			}
		}
	}
}

func TestBestParameterExamples(t *testing.T) {
	top := impl.MaxResidual
	for _, c := range []struct {
		list    []int
		k, bits int
	}{
		{nil, 0, 4}, {[]int{}, 0, 4}, {[]int{0}, 0, 5}, {[]int{-1}, 0, 6}, {[]int{1}, 0, 7}, {[]int{-2}, 1, 7}, {[]int{251}, 8, 14},
		{make([]int, 5), 0, 9}, {make([]int, 6), 15, 9}, {make([]int, impl.MaxBlock), 15, 9},
		// All are -1: one bit each with Escape, two bits each with Rice codes.
		{slices.Repeat([]int{-1}, 5), 0, 14}, {slices.Repeat([]int{-1}, 6), 15, 15}, {slices.Repeat([]int{1, -2}, 3), 15, 21},
		// Only Escape has numbers whose quotient is greater than MaxUnary.
		{[]int{4104192}, 15, 32}, {[]int{-4104193}, 15, 32}, {[]int{top}, 15, 32}, {[]int{-top}, 15, 32}, {[]int{0, top, 0}, 15, 78},
		{[]int{4104191}, 15, 32}, {append([]int{4104191}, make([]int, 63)...), 14, 4 + 515 + 63*15},
		{append([]int{4104192}, make([]int, 63)...), 15, 9 + 64*23}, {append([]int{250}, make([]int, 63)...), 2, 4 + 128 + 63*3},
		{slices.Repeat([]int{top, -top}, 32), 15, 9 + 64*23},
	} {
		if k, bits := impl.BestParameter(c.list); k != c.k || bits != c.bits {
			t.Errorf("BestParameter(%v) = %d, %d instead of %d, %d", c.list, k, bits, c.k, c.bits)
		}
	}
	for name, list := range invalidResiduals() {
		if k, bits := impl.BestParameter(list); k != -1 || bits != -1 {
			t.Errorf("BestParameter of %s = %d, %d", name, k, bits)
		}
	}
}

func TestBestParameterFollowsItsDefinition(t *testing.T) {
	r := rand.New(rand.NewSource(1))
	found := map[int]int{}
	for range 3000 {
		list := someResidual(r, r.Intn(24))
		if r.Intn(2) == 0 {
			list = smallNumbers(r, r.Intn(40), r.Intn(1<<r.Intn(18)))
		}
		want, text := slowParameter(list)
		if k, bits := impl.BestParameter(list); k != want || bits != len(text) {
			t.Errorf("BestParameter(%v) = %d, %d instead of %d, %d", list, k, bits, want, len(text))
		}
		found[want]++
	}
	if len(found) != impl.Escape+1 {
		t.Errorf("the residuals have the parameters %v", found)
	}
}

func TestWidthsOfEscape(t *testing.T) {
	for width := range 23 {
		// The limits of each width, and then one more on both sides.
		half := 1 << width >> 1
		for _, list := range [][]int{{-half}, {half - 1}, {-half, half - 1}, {-half - 1}, {half}} {
			list = slices.Repeat(list, 16)
			list = append(list, 0, 0, 0)
			if width > 0 && width < 20 {
				list = append(list, slices.Repeat([]int{-half, half - 1}, 8)...)
			}
			k, bits := impl.BestParameter(list)
			want, text := slowParameter(list)
			if k != want || bits != len(text) {
				t.Errorf("BestParameter(%v) = %d, %d instead of %d, %d", list, k, bits, want, len(text))
			}
			b, ok := impl.EncodeResidual(list, 0, 0)
			if !ok || textOfBits(b) != "00"+text {
				t.Errorf("EncodeResidual(%v) = %s instead of 00%s", list, textOfBits(b), text)
			}
		}
	}
}

func TestBestPartitionExamples(t *testing.T) {
	loud := slices.Repeat([]int{1000, -1000}, 4)
	for _, c := range []struct {
		list  []int
		order int
		want  int
	}{
		{nil, 0, 0}, {nil, 8, 0}, {make([]int, 8), 0, 0}, {make([]int, impl.MaxBlock), 0, 0}, {make([]int, 56), 8, 0},
		{append(make([]int, 8), loud...), 0, 1}, {slices.Concat(make([]int, 8), loud[1:]), 0, 0}, {slices.Concat(make([]int, 8), loud[1:]), 1, 1},
		{slices.Concat(make([]int, 4), loud[:4], make([]int, 4), loud[:4]), 0, 2},
		{slices.Concat(loud, loud, make([]int, 8), loud, make([]int, 24)), 8, 3},
		{slices.Concat(make([]int, 8), loud), 8, 1},
		// The first half is empty.
		{[]int{5, 5, -5, 5, 5, 5, -5, 5}, 8, 0},
	} {
		if got := impl.BestPartition(c.list, c.order); got != c.want {
			t.Errorf("BestPartition(%v, %d) = %d instead of %d", c.list, c.order, got, c.want)
		}
	}
}

func TestBestPartitionOfInvalidArguments(t *testing.T) {
	for name, list := range invalidResiduals() {
		for order := range impl.MaxOrder + 1 {
			if got := impl.BestPartition(list, order); got != -1 {
				t.Errorf("BestPartition of %s, order %d, = %d", name, order, got)
			}
		}
	}
	for _, order := range append([]int{-1, impl.MaxOrder + 1, 16, 64}, farNumbers...) {
		for _, count := range []int{0, 8, 16, 55, 64} {
			if got := impl.BestPartition(make([]int, count), order); got != -1 {
				t.Errorf("BestPartition of %d zeros, order %d, = %d", count, order, got)
			}
		}
	}
	for order := range impl.MaxOrder + 1 {
		if got := impl.BestPartition(make([]int, impl.MaxBlock-order), order); got != 0 {
			t.Errorf("BestPartition of MaxBlock samples, order %d, = %d", order, got)
		}
		if got := impl.BestPartition(make([]int, impl.MaxBlock-order+1), order); got != -1 {
			t.Errorf("BestPartition of one sample too many, order %d, = %d", order, got)
		}
	}
}

func TestBestPartitionFollowsItsDefinition(t *testing.T) {
	r := rand.New(rand.NewSource(2))
	found, tied := map[int]int{}, 0
	for range 1500 {
		order, count := somePlace(r)
		list := someResidual(r, count)
		if r.Intn(3) == 0 {
			list = smallNumbers(r, count, 3)
		}
		if r.Intn(3) == 0 && count == 16-order {
			// Two halves of which the second one is somewhat louder.
			list = append(smallNumbers(r, 8-order, 1), smallNumbers(r, 8, 2+r.Intn(6))...)
		}
		want, ties := slowPartition(list, order)
		if got := impl.BestPartition(list, order); got != want {
			t.Errorf("BestPartition(%v, %d) = %d instead of %d", list, order, got, want)
		}
		found[want]++
		if ties > 0 {
			tied++
		}
	}
	if len(found) != impl.MaxPartition+1 || tied < 10 {
		t.Errorf("the residuals have the exponents %v and %d ties", found, tied)
	}
}

func TestEncodeResidualExamples(t *testing.T) {
	for _, c := range []struct {
		list     []int
		order, p int
		want     string
	}{
		{nil, 0, 0, "00 0000"}, {nil, 8, 0, "00 0000"}, {nil, 0, 1, "01 0000 0000"}, {nil, 0, 3, "11" + strings.Repeat(" 0000", 8)},
		{[]int{0, 0, 0}, 1, 0, "00 0000 1 1 1"}, {[]int{1, -1, 2}, 0, 0, "00 0001 010 11 0010"}, {make([]int, 6), 0, 0, "00 1111 00000"},
		{make([]int, 5), 0, 0, "00 0000 11111"}, {[]int{-2}, 0, 0, "00 0001 011"}, {[]int{0, 5}, 0, 1, "01 0000 1 0010 00110"},
		{slices.Repeat([]int{-1}, 6), 0, 0, "00 1111 00001 111111"}, {slices.Repeat([]int{1, -2}, 3), 2, 0, "00 1111 00010 011001100110"},
		// The first partition is empty.
		{[]int{0, 0}, 2, 1, "01 0000 0000 11"}, {[]int{0, 0, 0, 0, 0, 0}, 2, 2, "10 0000 0000 11 0000 11 0000 11"}, {make([]int, 8), 8, 1, "01 0000 1111 00000"},
		{[]int{impl.MaxResidual}, 0, 0, "00 1111 10111 01111111111111111111111"}, {[]int{-impl.MaxResidual}, 0, 0, "00 1111 10111 10000000000000000000001"},
		{[]int{0, impl.MaxResidual, 0, 0}, 0, 2, "10 0000 1 1111 10111 01111111111111111111111 0000 1 0000 1"},
	} {
		want := strings.ReplaceAll(c.want, " ", "")
		b, ok := impl.EncodeResidual(c.list, c.order, c.p)
		if !ok || !sameBits(b, bitsOfText(want)) {
			t.Errorf("EncodeResidual(%v, %d, %d) = %s, %v instead of %s", c.list, c.order, c.p, textOfBits(b), ok, want)
		}
		list, next, ok := impl.DecodeResidual(bitsOfText(want), 0, len(c.list), c.order)
		if !ok || next != len(want) || !slices.Equal(list, c.list) {
			t.Errorf("DecodeResidual(%s) = %v, %d, %v", want, list, next, ok)
		}
	}
}

func TestEncodeResidualFollowsItsDefinition(t *testing.T) {
	r := rand.New(rand.NewSource(3))
	for range 1000 {
		order, count := somePlace(r)
		list, p := someResidual(r, count), r.Intn(impl.MaxPartition+1)
		want, possible := slowResidual(list, order, p)
		if b, ok := impl.EncodeResidual(list, order, p); ok != possible || !sameBits(b, bitsOfText(want)) {
			t.Errorf("EncodeResidual(%v, %d, %d) = %s, %v instead of %s", list, order, p, textOfBits(b), ok, want)
		}
	}
}

func TestEncodeResidualOfInvalidArguments(t *testing.T) {
	for name, list := range invalidResiduals() {
		for order := range impl.MaxOrder + 1 {
			if b, ok := impl.EncodeResidual(list, order, 0); ok || !isZero(b) {
				t.Errorf("EncodeResidual of %s, order %d, = %v, %v", name, order, b, ok)
			}
		}
	}
	// A number out of range is found in every partition.
	for i := range 8 {
		list := make([]int, 8)
		list[i] = impl.MaxResidual + 1
		if b, ok := impl.EncodeResidual(list, 0, 3); ok || !isZero(b) {
			t.Errorf("EncodeResidual(%v) = %v, %v", list, b, ok)
		}
	}
	for _, c := range []struct{ count, order, p int }{
		{8, -1, 0}, {8, 9, 0}, {8, 0, -1}, {8, 0, 4}, {7, 0, 1}, {6, 0, 2}, {12, 0, 3}, {7, 8, 1}, {0, 8, 1}, {48, 8, 3}, {64, 1, 0}, {57, 8, 0}, {4, 4, 2},
	} {
		if b, ok := impl.EncodeResidual(make([]int, c.count), c.order, c.p); ok || !isZero(b) {
			t.Errorf("EncodeResidual of %d zeros, %d, %d = %v, %v", c.count, c.order, c.p, b, ok)
		}
	}
	for _, n := range farNumbers {
		for _, c := range [][2]int{{n, 0}, {0, n}, {n, n}} {
			if b, ok := impl.EncodeResidual(make([]int, 8), c[0], c[1]); ok || !isZero(b) {
				t.Errorf("EncodeResidual of zeros, %d, %d = %v, %v", c[0], c[1], b, ok)
			}
		}
	}
}

func TestDecodeResidualOfAnyParameter(t *testing.T) {
	r := rand.New(rand.NewSource(4))
	for k := range impl.Escape + 1 {
		for range 40 {
			list := smallNumbers(r, 1+r.Intn(12), r.Intn(200))
			partition, _ := partitionText(list, k)
			text := "1" + "00" + partition
			got, next, ok := impl.DecodeResidual(bitsOfText(text+"01"), 1, len(list), 0)
			if !ok || next != len(text) || !slices.Equal(got, list) {
				t.Errorf("DecodeResidual(%s) with parameter %d = %v, %d, %v instead of %v", text, k, got, next, ok, list)
			}
		}
	}
	for width := range 32 {
		list := []int{0, 0}
		if width > 0 {
			half := min(1<<(width-1), impl.MaxResidual)
			list = []int{-half, half - 1, 0, -1}
		}
		text := "00" + escapeText(list, width)
		if got, next, ok := impl.DecodeResidual(bitsOfText(text), 0, len(list), 0); !ok || next != len(text) || !slices.Equal(got, list) {
			t.Errorf("DecodeResidual(%s) with width %d = %v, %d, %v instead of %v", text, width, got, next, ok, list)
		}
	}
}

func TestDecodeResidualOfEmptyPartitions(t *testing.T) {
	for _, c := range []struct {
		text         string
		count, order int
	}{
		{"00 0000", 0, 0}, {"00 1110", 0, 8}, {"00 1111 11111", 0, 0}, {"00 1111 00000", 0, 3}, {"01 1111 11111 0011", 0, 0},
		{"01 1111 11111 0000 11", 2, 2}, {"10 1110 0000 1 1111 00000 1111 00001 0", 3, 1}, {"11" + strings.Repeat("1111 10101", 8), 0, 0},
	} {
		text := strings.ReplaceAll(c.text, " ", "")
		list, next, ok := impl.DecodeResidual(bitsOfText(text), 0, c.count, c.order)
		if !ok || next != len(text) || !slices.Equal(list, make([]int, c.count)) {
			t.Errorf("DecodeResidual(%s) = %v, %d, %v", text, list, next, ok)
		}
		for size := range len(text) {
			checkNoResidual(t, "a part", bitsOfText(text[:size]), 0, c.count, c.order)
		}
	}
}

func TestDecodeResidualOfNumbersOutOfRange(t *testing.T) {
	top := impl.MaxResidual
	for width := 23; width < 32; width++ {
		for _, n := range []int{-top - 1, top + 1, -1 << (width - 1), 1<<(width-1) - 1} {
			if n >= -top && n <= top || n >= 1<<(width-1) {
				continue
			}
			for _, list := range [][]int{{n}, {0, n}, {n, 0}} {
				checkNoResidual(t, "a number out of range", bitsOfText("00"+escapeText(list, width)+"1111"), 0, len(list), 0)
			}
			checkNoResidual(t, "a number in the second partition", bitsOfText("01"+"00001"+escapeText([]int{n}, width)), 0, 2, 0)
			checkNoResidual(t, "a number in the first partition", bitsOfText("01"+escapeText([]int{n}, width)+"00001"), 0, 2, 0)
		}
	}
	for _, n := range []int{4104191, -4104192} {
		code, _ := riceText(n, 14)
		if list, next, ok := impl.DecodeResidual(bitsOfText("00"+"1110"+code), 0, 1, 0); !ok || next != 521 || !slices.Equal(list, []int{n}) {
			t.Errorf("DecodeResidual of %d = %v, %d, %v", n, list, next, ok)
		}
		checkNoResidual(t, "a quotient too great", bitsOfText("00"+"1110"+"0"+code), 0, 1, 0)
	}
}

func TestDecodeResidualOfInvalidArguments(t *testing.T) {
	b := bitsOfText("00" + "0000" + strings.Repeat("1", 80))
	for _, c := range []struct{ count, order int }{{-1, 0}, {65, 0}, {64, 1}, {57, 8}, {0, -1}, {0, 9}, {8, -1}, {8, 9}, {-1, 1}, {-8, 8}} {
		checkNoResidual(t, "ones", b, 0, c.count, c.order)
	}
	for _, n := range farNumbers {
		for _, c := range [][3]int{{n, 8, 0}, {0, n, 0}, {0, 8, n}, {0, n, n}, {0, n, -n}} {
			checkNoResidual(t, "ones", b, c[0], c[1], c[2])
		}
	}
	for _, at := range []int{-1, -8, b.Count - 1, b.Count, b.Count + 1} {
		checkNoResidual(t, "ones", b, at, 0, 0)
	}
	// The partitions must be possible for the bits that are there.
	checkNoResidual(t, "two partitions", bitsOfText("01"+strings.Repeat("0", 8)+strings.Repeat("1", 80)), 0, 7, 0)
	checkNoResidual(t, "a negative size", bitsOfText("01"+strings.Repeat("0", 8)+strings.Repeat("1", 80)), 0, 6, 8)
	for name, b := range invalidBits() {
		checkNoResidual(t, name, b, 0, 0, 0)
	}
}

func TestDecodeResidualOfAnyBits(t *testing.T) {
	r := rand.New(rand.NewSource(5))
	read, none := 0, 0
	for range 4000 {
		b := someBits(r, r.Intn(300))
		order, count := somePlace(r)
		if r.Intn(2) == 0 {
			count %= 9
		}
		at := r.Intn(b.Count + 1)
		want, rest, possible := takenResidual(textOfBits(b)[at:], count, order)
		place := b.Count - len(rest)
		if !possible {
			want, place = nil, 0
			none++
		} else {
			read++
		}
		if list, next, ok := impl.DecodeResidual(b, at, count, order); ok != possible || next != place || !slices.Equal(list, want) {
			t.Errorf("DecodeResidual(%s, %d, %d, %d) = %v, %d, %v instead of %v, %d", textOfBits(b), at, count, order, list, next, ok, want, place)
		}
	}
	if read < 500 || none < 500 {
		t.Errorf("%d residuals were read, and %d not", read, none)
	}
}

func TestPartitionsTouchNothing(t *testing.T) {
	for p := range 3 {
		was := []int{0, 0, 3, -1, 700, 0, 2, 4000000}
		list := roomy(was)
		impl.BestParameter(list)
		impl.BestPartition(list, 0)
		b, ok := impl.EncodeResidual(list, 0, p)
		if !ok {
			t.Fatal("EncodeResidual fails")
		}
		wanted := slices.Clone(b.Bytes)
		checkUntouched(t, list, was, b.Bytes)
		b = impl.Bits{Bytes: roomy(wanted), Count: b.Count}
		out, _, ok := impl.DecodeResidual(b, 0, len(was), 0)
		if !ok || !slices.Equal(out, was) {
			t.Errorf("DecodeResidual = %v, %v", out, ok)
		}
		checkUntouched(t, b.Bytes, wanted, out)
	}
	sizes := impl.PartitionSizes(8, 0, 1)
	sizes[0] = 77
	if got := impl.PartitionSizes(8, 0, 1); !slices.Equal(got, []int{4, 4}) {
		t.Errorf("PartitionSizes = %v after a change of a result", got)
	}
}

func TestP37PartitionsHaveAllNumbers(t *testing.T) {
	found := 0
	for order := range impl.MaxOrder + 1 {
		for count := range impl.MaxBlock - order + 1 {
			for p := range impl.MaxPartition + 1 {
				sizes := impl.PartitionSizes(count, order, p)
				if len(sizes) == 0 {
					continue
				}
				found++
				sum := 0
				for i, size := range sizes {
					sum += size
					if i > 0 && size != sizes[0]+order {
						t.Errorf("PartitionSizes(%d, %d, %d) = %v", count, order, p, sizes)
					}
				}
				if len(sizes) != 1<<p || sum != count || sizes[0] < 0 {
					t.Errorf("PartitionSizes(%d, %d, %d) = %v", count, order, p, sizes)
				}
			}
		}
	}
	if found < 900 {
		t.Errorf("only %d divisions are possible", found)
	}
}

func TestP38NoParameterIsBetter(t *testing.T) {
	r := rand.New(rand.NewSource(38))
	for range 1000 {
		list := someResidual(r, r.Intn(impl.MaxBlock+1))
		_, bits := impl.BestParameter(list)
		for k := range impl.MaxRice + 1 {
			sum := 4
			possible := true
			for _, n := range list {
				length := impl.RiceLength(n, k)
				possible = possible && length >= 0
				sum += length
			}
			if possible && (bits < 0 || bits > sum) {
				t.Errorf("BestParameter(%v) has %d bits, and %d has %d", list, bits, k, sum)
			}
		}
	}
}

func TestP39ZerosAreCheap(t *testing.T) {
	for count := range impl.MaxBlock + 1 {
		want, most := 0, 4+count
		if count > 5 {
			want, most = impl.Escape, 9
		}
		if k, bits := impl.BestParameter(make([]int, count)); k != want || bits != most {
			t.Errorf("BestParameter of %d zeros = %d, %d", count, k, bits)
		}
	}
}

func TestP40ResidualsCanBeRead(t *testing.T) {
	r := rand.New(rand.NewSource(40))
	read := 0
	for range 2000 {
		order, count := somePlace(r)
		list, p := someResidual(r, count), r.Intn(impl.MaxPartition+1)
		b, ok := impl.EncodeResidual(list, order, p)
		if !ok {
			continue
		}
		read++
		if got, next, ok := impl.DecodeResidual(b, 0, count, order); !ok || !slices.Equal(got, list) || next != b.Count {
			t.Errorf("DecodeResidual of EncodeResidual(%v, %d, %d) = %v, %d, %v", list, order, p, got, next, ok)
		}
	}
	if read < 1000 {
		t.Errorf("only %d residuals were read", read)
	}
}

func TestP41PartitionsMakeUpTheLength(t *testing.T) {
	r := rand.New(rand.NewSource(41))
	for range 2000 {
		order, count := somePlace(r)
		list, p := someResidual(r, count), r.Intn(impl.MaxPartition+1)
		b, ok := impl.EncodeResidual(list, order, p)
		sizes := impl.PartitionSizes(count, order, p)
		if ok != (len(sizes) > 0) {
			t.Errorf("EncodeResidual(%v, %d, %d) = %v", list, order, p, ok)
		}
		sum := 2
		for _, part := range divided(list, sizes) {
			_, bits := impl.BestParameter(part)
			sum += bits
		}
		if ok && b.Count != sum {
			t.Errorf("EncodeResidual(%v, %d, %d) has %d bits instead of %d", list, order, p, b.Count, sum)
		}
	}
}

func TestP42NoDivisionIsBetter(t *testing.T) {
	r := rand.New(rand.NewSource(42))
	for range 1000 {
		order, count := somePlace(r)
		list := someResidual(r, count)
		best, ok := impl.EncodeResidual(list, order, impl.BestPartition(list, order))
		if !ok {
			t.Errorf("BestPartition(%v, %d) cannot be used", list, order)
		}
		for p := range impl.MaxPartition + 1 {
			if b, ok := impl.EncodeResidual(list, order, p); ok && b.Count < best.Count {
				t.Errorf("EncodeResidual(%v, %d, %d) is shorter than with BestPartition", list, order, p)
			}
		}
	}
}

func TestP43WhatIsReadIsAResidual(t *testing.T) {
	r := rand.New(rand.NewSource(43))
	read := 0
	for range 4000 {
		b := someBits(r, r.Intn(400))
		order, count := somePlace(r)
		at := r.Intn(b.Count + 1)
		list, next, ok := impl.DecodeResidual(b, at, count, order)
		if !ok {
			continue
		}
		read++
		if len(list) != count || slices.Max(append(list, 0)) > impl.MaxResidual || slices.Min(append(list, 0)) < -impl.MaxResidual {
			t.Errorf("DecodeResidual(%s, %d, %d, %d) = %v", textOfBits(b), at, count, order, list)
		}
		checkNoResidual(t, "all bits but the last one", bitsOfText(textOfBits(b)[:next-1]), at, count, order)
		if got, end, ok := impl.DecodeResidual(bitsOfText(textOfBits(b)[:next]), at, count, order); !ok || end != next || !slices.Equal(got, list) {
			t.Errorf("DecodeResidual(%s, %d, %d, %d) needs more than its bits", textOfBits(b), at, count, order)
		}
	}
	if read < 300 {
		t.Errorf("only %d residuals were read", read)
	}
}

func TestP132FinerPartitionsDivideCoarserOnes(t *testing.T) {
	found := 0
	for order := range impl.MaxOrder + 1 {
		for count := range impl.MaxBlock - order + 1 {
			for p := range impl.MaxPartition {
				fine := impl.PartitionSizes(count, order, p+1)
				if len(fine) == 0 {
					continue
				}
				found++
				sums := []int{}
				for i := 0; i < len(fine); i += 2 {
					sums = append(sums, fine[i]+fine[i+1])
				}
				if coarse := impl.PartitionSizes(count, order, p); !slices.Equal(coarse, sums) {
					t.Errorf("PartitionSizes(%d, %d, %d) = %v, with one exponent more %v", count, order, p, coarse, fine)
				}
			}
		}
	}
	if found < 300 {
		t.Errorf("only %d finer divisions are possible", found)
	}
}

func TestP133ResidualsCanBeAnywhere(t *testing.T) {
	r := rand.New(rand.NewSource(133))
	for range 1000 {
		order, count := somePlace(r)
		list, before, behind := someResidual(r, count), someBits(r, r.Intn(40)), someBits(r, r.Intn(20))
		b, ok := impl.EncodeResidual(list, order, impl.BestPartition(list, order))
		if !ok {
			t.Fatalf("EncodeResidual(%v, %d) fails", list, order)
		}
		all := bitsOfText(textOfBits(before) + textOfBits(b) + textOfBits(behind))
		got, next, ok := impl.DecodeResidual(all, before.Count, count, order)
		if !ok || !slices.Equal(got, list) || next != before.Count+b.Count {
			t.Errorf("DecodeResidual of EncodeResidual(%v, %d) behind %d bits = %v, %d, %v", list, order, before.Count, got, next, ok)
		}
	}
}
