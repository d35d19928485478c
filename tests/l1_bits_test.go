package tests

import (
	"math"
	"math/rand"
	"slices"
	"testing"

	"loop.example/losslessaudio/impl"
)

func TestLimitsOfBits(t *testing.T) {
	if impl.MaxBits != 16384 || impl.MaxBytes != 2048 || impl.MaxWidth != 32 {
		t.Error("a limit is wrong")
	}
}

func TestPutBitsShowsHighestBitFirst(t *testing.T) {
	for _, c := range []struct {
		before string
		value  int
		width  int
	}{
		{"", 0, 0}, {"", 5, 3}, {"", 1, 1}, {"", 0, 1}, {"101", 1, 1}, {"1010111", 1, 1}, {"10101110", 1, 1},
		{"1", 4294967295, 32}, {"0000000", 2147483649, 32}, {"", 255, 8}, {"1111111", 256, 9}, {"101", 0, 32},
	} {
		got, ok := impl.PutBits(bitsOfText(c.before), c.value, c.width)
		want := bitsOfText(c.before + textOfNumber(c.value, c.width))
		if !ok || !sameBits(got, want) {
			t.Errorf("PutBits(%s, %d, %d) = %v, %v", c.before, c.value, c.width, got, ok)
		}
	}
}

func TestPutBitsOfInvalidArguments(t *testing.T) {
	for _, c := range []struct{ value, width int }{
		{0, -1}, {0, 33}, {1, 33}, {0, 64}, {0, math.MinInt}, {0, math.MaxInt},
		{1, 0}, {-1, 0}, {2, 1}, {-1, 1}, {8, 3}, {256, 8}, {-1, 32}, {4294967296, 32}, {math.MaxInt, 32}, {math.MinInt, 32},
	} {
		if b, ok := impl.PutBits(bitsOfText("101"), c.value, c.width); ok || !isZero(b) {
			t.Errorf("PutBits(101, %d, %d) = %v, %v", c.value, c.width, b, ok)
		}
	}
	for name, b := range invalidBits() {
		for _, width := range []int{0, 1} {
			if got, ok := impl.PutBits(b, 0, width); ok || !isZero(got) {
				t.Errorf("PutBits of %s = %v, %v", name, got, ok)
			}
		}
	}
}

func TestPutBitsUpToMaxBits(t *testing.T) {
	for width := range impl.MaxWidth + 1 {
		if b, ok := impl.PutBits(zeros(impl.MaxBits-width), 0, width); !ok || !sameBits(b, zeros(impl.MaxBits)) {
			t.Errorf("PutBits of the last %d bits = %d bits, %v", width, b.Count, ok)
		}
		if width == 0 {
			continue
		}
		if b, ok := impl.PutBits(zeros(impl.MaxBits-width+1), 0, width); ok || !isZero(b) {
			t.Errorf("PutBits of %d bits and one too many = %d bits, %v", width, b.Count, ok)
		}
	}
}

func TestGetBitsAtPlaces(t *testing.T) {
	b := bitsOfText("1011001110001111000011")
	for at := range b.Count + 1 {
		for width := range b.Count - at + 1 {
			n, ok := impl.GetBits(b, at, width)
			if want := textOfBits(b)[at : at+width]; !ok || n>>width != 0 || textOfNumber(n, width) != want {
				t.Errorf("GetBits(%d, %d) = %d, %v instead of %s", at, width, n, ok, want)
			}
		}
		if n, ok := impl.GetBits(b, at, b.Count-at+1); ok || n != 0 {
			t.Errorf("GetBits of one bit too many at %d = %d, %v", at, n, ok)
		}
	}
}

func TestGetBitsAtAndBehindTheEnd(t *testing.T) {
	for _, b := range []impl.Bits{{}, {Bytes: []int{}}, bitsOfText("1"), bitsOfText("11111111"), bitsOfText("1111111111")} {
		if n, ok := impl.GetBits(b, b.Count, 0); !ok || n != 0 {
			t.Errorf("GetBits of no bits at the end of %v = %d, %v", b, n, ok)
		}
		for _, c := range [][2]int{{b.Count, 1}, {b.Count + 1, 0}, {b.Count + 1, 1}, {b.Count + 8, 0}, {-1, 0}, {-1, 1}, {-8, 8}} {
			if n, ok := impl.GetBits(b, c[0], c[1]); ok || n != 0 {
				t.Errorf("GetBits(%v, %d, %d) = %d, %v", b, c[0], c[1], n, ok)
			}
		}
	}
	full := zeros(impl.MaxBits)
	full.Bytes[impl.MaxBytes-1] = 1
	if n, ok := impl.GetBits(full, impl.MaxBits-1, 1); !ok || n != 1 {
		t.Errorf("GetBits of the last bit = %d, %v", n, ok)
	}
	if n, ok := impl.GetBits(full, impl.MaxBits, 0); !ok || n != 0 {
		t.Errorf("GetBits behind MaxBits bits = %d, %v", n, ok)
	}
}

func TestGetBitsOfInvalidArguments(t *testing.T) {
	b := impl.BitsOf(slices.Repeat([]int{255}, 20))
	for _, width := range append([]int{-1, -8, 33, 64, 65}, farNumbers...) {
		if n, ok := impl.GetBits(b, 0, width); ok || n != 0 {
			t.Errorf("GetBits with width %d = %d, %v", width, n, ok)
		}
	}
	for _, at := range farNumbers {
		for _, width := range []int{0, 1, 32} {
			if n, ok := impl.GetBits(b, at, width); ok || n != 0 {
				t.Errorf("GetBits(%d, %d) = %d, %v", at, width, n, ok)
			}
		}
	}
	for name, b := range invalidBits() {
		for _, width := range []int{0, 1} {
			if n, ok := impl.GetBits(b, 0, width); ok || n != 0 {
				t.Errorf("GetBits of %s = %d, %v", name, n, ok)
			}
		}
	}
}

func TestJoinBitsExamples(t *testing.T) {
	for _, c := range [][2]string{
		{"", ""}, {"1", ""}, {"", "1"}, {"101", "1"}, {"1010", "11111111"}, {"1", "0000000000001"},
		{"11111111", "10000001"}, {"1111111", "1"}, {"1111111", "11"}, {"101010101", "010101010101010101"},
	} {
		if b, ok := impl.JoinBits(bitsOfText(c[0]), bitsOfText(c[1])); !ok || !sameBits(b, bitsOfText(c[0]+c[1])) {
			t.Errorf("JoinBits(%s, %s) = %v, %v", c[0], c[1], b, ok)
		}
	}
}

func TestJoinBitsUpToMaxBits(t *testing.T) {
	for _, count := range []int{0, 1, 7, 8, 9, 100, 8192, impl.MaxBits - 1, impl.MaxBits} {
		if b, ok := impl.JoinBits(zeros(count), zeros(impl.MaxBits-count)); !ok || !sameBits(b, zeros(impl.MaxBits)) {
			t.Errorf("JoinBits of %d bits and the rest = %d bits, %v", count, b.Count, ok)
		}
		if count == 0 {
			continue
		}
		if b, ok := impl.JoinBits(zeros(count), zeros(impl.MaxBits-count+1)); ok || !isZero(b) {
			t.Errorf("JoinBits of %d bits and too many = %d bits, %v", count, b.Count, ok)
		}
	}
	if b, ok := impl.JoinBits(zeros(impl.MaxBits), zeros(impl.MaxBits)); ok || !isZero(b) {
		t.Errorf("JoinBits of twice MaxBits = %d bits, %v", b.Count, ok)
	}
}

func TestJoinBitsOfInvalidArguments(t *testing.T) {
	for name, b := range invalidBits() {
		for _, other := range []impl.Bits{{}, bitsOfText("1"), b} {
			if got, ok := impl.JoinBits(b, other); ok || !isZero(got) {
				t.Errorf("JoinBits of %s = %v, %v", name, got, ok)
			}
			if got, ok := impl.JoinBits(other, b); ok || !isZero(got) {
				t.Errorf("JoinBits with %s = %v, %v", name, got, ok)
			}
		}
	}
}

func TestAlignBitsExamples(t *testing.T) {
	for text, want := range map[string]string{
		"": "", "1": "10000000", "0": "00000000", "1111111": "11111110", "11111111": "11111111", "101010101": "1010101010000000",
	} {
		if b := impl.AlignBits(bitsOfText(text)); !sameBits(b, bitsOfText(want)) {
			t.Errorf("AlignBits(%s) = %v", text, b)
		}
	}
	for count := impl.MaxBits - 8; count <= impl.MaxBits; count++ {
		want := impl.MaxBits
		if count == impl.MaxBits-8 {
			want = count
		}
		if b := impl.AlignBits(zeros(count)); !sameBits(b, zeros(want)) {
			t.Errorf("AlignBits of %d bits = %d bits", count, b.Count)
		}
	}
	for name, b := range invalidBits() {
		if got := impl.AlignBits(b); !isZero(got) {
			t.Errorf("AlignBits of %s = %v", name, got)
		}
	}
}

func TestBitsOfExamples(t *testing.T) {
	if b := impl.BitsOf([]int{160, 0, 255}); !sameBits(b, bitsOfText("101000000000000011111111")) {
		t.Errorf("BitsOf = %v", b)
	}
	if !isZero(impl.BitsOf(nil)) || !isZero(impl.BitsOf([]int{})) {
		t.Error("BitsOf nothing is not nothing")
	}
	if b := impl.BitsOf(make([]int, impl.MaxBytes)); !sameBits(b, zeros(impl.MaxBits)) {
		t.Errorf("BitsOf MaxBytes = %d bits", b.Count)
	}
	for name, list := range invalidBytes() {
		if b := impl.BitsOf(list); !isZero(b) {
			t.Errorf("BitsOf %s = %v", name, b)
		}
	}
}

func TestBitsShareNoMemory(t *testing.T) {
	for _, count := range []int{0, 3, 8, 21, 24} {
		b := someBits(rand.New(rand.NewSource(1)), count)
		was := slices.Clone(b.Bytes)
		b.Bytes = roomy(b.Bytes)
		for _, f := range []func() impl.Bits{
			func() impl.Bits { x, _ := impl.PutBits(b, 0, 0); return x },
			func() impl.Bits { x, _ := impl.PutBits(b, 1000, 10); return x },
			func() impl.Bits { x, _ := impl.JoinBits(b, impl.Bits{}); return x },
			func() impl.Bits { x, _ := impl.JoinBits(impl.Bits{}, b); return x },
			func() impl.Bits { x, _ := impl.JoinBits(b, b); return x },
			func() impl.Bits { x, _ := impl.PutUnary(b, 9); return x },
			func() impl.Bits { x, _ := impl.PutRice(b, 9, 3); return x },
			func() impl.Bits { return impl.AlignBits(b) },
			func() impl.Bits { return impl.BitsOf(b.Bytes) },
		} {
			checkUntouched(t, b.Bytes, was, f().Bytes)
		}
	}
}

func TestP1WhatIsPutCanBeGot(t *testing.T) {
	r := rand.New(rand.NewSource(1))
	for range 500 {
		b, width := someBits(r, r.Intn(100)), r.Intn(impl.MaxWidth+1)
		n := numberBelow(r, width)
		x, ok := impl.PutBits(b, n, width)
		if got, ok2 := impl.GetBits(x, b.Count, width); !ok || !ok2 || got != n || x.Count != b.Count+width {
			t.Errorf("GetBits of %d in %d bits = %d, %v", n, width, got, ok2)
		}
		if textOfBits(x)[:b.Count] != textOfBits(b) {
			t.Errorf("PutBits changes %v", b)
		}
	}
}

func TestP2NumbersCanBePutInParts(t *testing.T) {
	r := rand.New(rand.NewSource(2))
	for range 500 {
		b, width := someBits(r, r.Intn(100)), 4+r.Intn(impl.MaxWidth-3)
		n := numberBelow(r, width)
		whole, ok := impl.PutBits(b, n, width)
		high, ok2 := impl.PutBits(b, n/16, width-4)
		parts, ok3 := impl.PutBits(high, n%16, 4)
		if !ok || !ok2 || !ok3 || !sameBits(whole, parts) {
			t.Errorf("PutBits of %d in %d bits = %v, in parts %v", n, width, whole, parts)
		}
	}
}

func TestP3BitsAreReadInParts(t *testing.T) {
	r := rand.New(rand.NewSource(3))
	for range 500 {
		b, width := someBits(r, 32+r.Intn(100)), 1+r.Intn(impl.MaxWidth)
		at := r.Intn(b.Count - width + 1)
		whole, ok := impl.GetBits(b, at, width)
		high, ok2 := impl.GetBits(b, at, width-1)
		last, ok3 := impl.GetBits(b, at+width-1, 1)
		if !ok || !ok2 || !ok3 || whole != 2*high+last {
			t.Errorf("GetBits(%d, %d) = %d, in parts %d and %d", at, width, whole, high, last)
		}
	}
}

func TestP4JoinedBitsHaveBothParts(t *testing.T) {
	r := rand.New(rand.NewSource(4))
	for range 500 {
		a, b := someBits(r, r.Intn(60)), someBits(r, r.Intn(60))
		x, ok := impl.JoinBits(a, b)
		if !ok || x.Count != a.Count+b.Count || textOfBits(x) != textOfBits(a)+textOfBits(b) {
			t.Errorf("JoinBits(%v, %v) = %v, %v", a, b, x, ok)
		}
	}
}

func TestP5AlignedBitsFillTheirBytes(t *testing.T) {
	r := rand.New(rand.NewSource(5))
	for count := range 100 {
		b := someBits(r, count)
		x := impl.AlignBits(b)
		if !slices.Equal(x.Bytes, b.Bytes) || x.Count != 8*len(b.Bytes) || !sameBits(impl.AlignBits(x), x) {
			t.Errorf("AlignBits(%v) = %v", b, x)
		}
	}
}

func TestP6BytesAreEightBits(t *testing.T) {
	r := rand.New(rand.NewSource(6))
	for _, count := range []int{1, 2, 50, impl.MaxBytes} {
		list := someBytes(r, count)
		b := impl.BitsOf(list)
		for _, i := range []int{0, r.Intn(count), count - 1} {
			if n, ok := impl.GetBits(b, 8*i, 8); !ok || n != list[i] {
				t.Errorf("byte %d of BitsOf is %d instead of %d", i, n, list[i])
			}
		}
	}
}

func TestP126NoBitsAreNoNumber(t *testing.T) {
	r := rand.New(rand.NewSource(126))
	for range 500 {
		b, width := someBits(r, r.Intn(100)), r.Intn(impl.MaxWidth+1)
		n := numberBelow(r, width)
		if x, ok := impl.PutBits(b, 0, 0); !ok || !sameBits(x, b) {
			t.Errorf("PutBits of nothing to %v = %v", b, x)
		}
		single, ok := impl.PutBits(impl.Bits{}, n, width)
		joined, ok2 := impl.JoinBits(b, single)
		put, ok3 := impl.PutBits(b, n, width)
		if !ok || !ok2 || !ok3 || !sameBits(joined, put) {
			t.Errorf("JoinBits of %d in %d bits = %v, PutBits %v", n, width, joined, put)
		}
	}
}

func TestP127JoiningIsAssociative(t *testing.T) {
	r := rand.New(rand.NewSource(127))
	for range 500 {
		a, b, c := someBits(r, r.Intn(40)), someBits(r, r.Intn(40)), someBits(r, r.Intn(40))
		ab, ok1 := impl.JoinBits(a, b)
		left, ok2 := impl.JoinBits(ab, c)
		bc, ok3 := impl.JoinBits(b, c)
		right, ok4 := impl.JoinBits(a, bc)
		if !ok1 || !ok2 || !ok3 || !ok4 || !sameBits(left, right) {
			t.Errorf("JoinBits of %v, %v and %v = %v or %v", a, b, c, left, right)
		}
	}
}
