package tests

import (
	"math"
	"math/rand"
	"strings"
	"testing"

	"loop.example/losslessaudio/impl"
)

// someSigned returns a signed number that can have a Rice code, often a small one.
func someSigned(r *rand.Rand) int {
	return min(numberBelow(r, 22), impl.MaxResidual) * (1 - 2*r.Intn(2))
}

// unaryText returns a number in unary form, formed without the program.
func unaryText(n int) string {
	return strings.Repeat("0", n) + "1"
}

func TestLimitsOfCodes(t *testing.T) {
	if impl.MaxResidual != 4194303 || impl.MaxUnary != 500 || impl.MaxRice != 14 {
		t.Error("a limit is wrong")
	}
}

func TestZigzagExamples(t *testing.T) {
	for n, want := range map[int]int{
		0: 0, -1: 1, 1: 2, -2: 3, 2: 4, -3: 5, 3: 6,
		impl.MaxResidual: 8388606, -impl.MaxResidual: 8388605, impl.MaxResidual + 1: -1, -impl.MaxResidual - 1: -1,
		math.MaxInt: -1, math.MinInt: -1, 1 << 32: -1, -1 << 32: -1,
	} {
		if got := impl.Zigzag(n); got != want {
			t.Errorf("Zigzag(%d) = %d instead of %d", n, got, want)
		}
	}
}

func TestUnzigzagExamples(t *testing.T) {
	for n, want := range map[int]int{0: 0, 1: -1, 2: 1, 3: -2, 4: 2, 8388605: -impl.MaxResidual, 8388606: impl.MaxResidual} {
		if got, ok := impl.Unzigzag(n); !ok || got != want {
			t.Errorf("Unzigzag(%d) = %d, %v instead of %d", n, got, ok, want)
		}
	}
	for _, n := range append([]int{-1, -2, 8388607, 8388608}, farNumbers...) {
		if got, ok := impl.Unzigzag(n); ok || got != 0 {
			t.Errorf("Unzigzag(%d) = %d, %v", n, got, ok)
		}
	}
}

func TestPutUnaryExamples(t *testing.T) {
	for _, before := range []string{"", "1", "1111111", "11111111"} {
		for _, n := range []int{0, 1, 7, 8, 9, 31, 32, 33, impl.MaxUnary} {
			if b, ok := impl.PutUnary(bitsOfText(before), n); !ok || !sameBits(b, bitsOfText(before+unaryText(n))) {
				t.Errorf("PutUnary(%s, %d) = %v, %v", before, n, b, ok)
			}
		}
	}
	for _, n := range append([]int{-1, impl.MaxUnary + 1}, farNumbers...) {
		if b, ok := impl.PutUnary(bitsOfText("1"), n); ok || !isZero(b) {
			t.Errorf("PutUnary of %d = %v, %v", n, b, ok)
		}
	}
	for name, b := range invalidBits() {
		if got, ok := impl.PutUnary(b, 0); ok || !isZero(got) {
			t.Errorf("PutUnary to %s = %v, %v", name, got, ok)
		}
	}
}

func TestPutUnaryUpToMaxBits(t *testing.T) {
	for _, n := range []int{0, 1, 8, 40, impl.MaxUnary} {
		b, ok := impl.PutUnary(zeros(impl.MaxBits-n-1), n)
		if !ok || b.Count != impl.MaxBits || b.Bytes[impl.MaxBytes-1] != 1 {
			t.Errorf("PutUnary of %d at the last place = %d bits, %v", n, b.Count, ok)
		}
		if b, ok := impl.PutUnary(zeros(impl.MaxBits-n), n); ok || !isZero(b) {
			t.Errorf("PutUnary of %d and one bit too many = %d bits, %v", n, b.Count, ok)
		}
	}
}

func TestGetUnaryExamples(t *testing.T) {
	for _, before := range []string{"", "0", "1111111", "00000000"} {
		for _, n := range []int{0, 1, 7, 8, 9, 63, impl.MaxUnary} {
			for _, behind := range []string{"", "0", "1", "0001"} {
				b := bitsOfText(before + unaryText(n) + behind)
				if got, next, ok := impl.GetUnary(b, len(before)); !ok || got != n || next != len(before)+n+1 {
					t.Errorf("GetUnary of %d behind %s = %d, %d, %v", n, before, got, next, ok)
				}
			}
		}
	}
}

func TestGetUnaryWithoutNumber(t *testing.T) {
	for _, c := range []struct {
		bits string
		at   int
	}{
		{"", 0}, {"", 1}, {"0", 0}, {"1", 1}, {"1", 2}, {"1", -1}, {"10000000", 1}, {"11111111", 8}, {"11111111", 9},
		{strings.Repeat("0", 600), 0}, {unaryText(impl.MaxUnary + 1), 0}, {"1" + unaryText(impl.MaxUnary+1), 1},
	} {
		if n, next, ok := impl.GetUnary(bitsOfText(c.bits), c.at); ok || n != 0 || next != 0 {
			t.Errorf("GetUnary(%s, %d) = %d, %d, %v", c.bits, c.at, n, next, ok)
		}
	}
	for _, at := range farNumbers {
		if n, next, ok := impl.GetUnary(bitsOfText("1111"), at); ok || n != 0 || next != 0 {
			t.Errorf("GetUnary at %d = %d, %d, %v", at, n, next, ok)
		}
	}
	for name, b := range invalidBits() {
		if n, next, ok := impl.GetUnary(b, 0); ok || n != 0 || next != 0 {
			t.Errorf("GetUnary of %s = %d, %d, %v", name, n, next, ok)
		}
	}
}

func TestRiceLengthExamples(t *testing.T) {
	for _, c := range []struct{ n, k, want int }{
		{0, 0, 1}, {-1, 0, 2}, {1, 0, 3}, {-3, 1, 4}, {250, 0, 501}, {-250, 0, 500}, {-251, 0, -1}, {251, 0, -1}, {9999, 0, -1},
		{250, 1, 252}, {500, 1, 502}, {-501, 1, 502}, {501, 1, -1}, {-502, 1, -1}, {0, 14, 15}, {-8192, 14, 15}, {8192, 14, 16},
		{4104191, 14, 515}, {-4104192, 14, 515}, {4104192, 14, -1}, {-4104193, 14, -1}, {impl.MaxResidual, 14, -1}, {-impl.MaxResidual, 14, -1},
		{impl.MaxResidual + 1, 14, -1}, {-impl.MaxResidual - 1, 14, -1}, {0, -1, -1}, {0, 15, -1}, {1, 63, -1}, {0, 64, -1},
	} {
		if got := impl.RiceLength(c.n, c.k); got != c.want {
			t.Errorf("RiceLength(%d, %d) = %d instead of %d", c.n, c.k, got, c.want)
		}
	}
	for _, n := range farNumbers {
		if impl.RiceLength(n, 14) != -1 || impl.RiceLength(0, n) != -1 {
			t.Errorf("RiceLength of %d is not -1", n)
		}
	}
}

func TestPutRiceExamples(t *testing.T) {
	for _, c := range []struct {
		n, k int
		want string
	}{
		{0, 0, "1"}, {-1, 0, "01"}, {2, 0, "00001"}, {-3, 1, "0011"}, {0, 3, "1000"}, {3, 2, "0110"}, {-4, 2, "0111"},
		{0, 14, "1" + strings.Repeat("0", 14)}, {-8192, 14, strings.Repeat("1", 15)}, {250, 0, unaryText(500)},
		{4104191, 14, unaryText(500) + "11111111111110"}, {-4104192, 14, unaryText(500) + "11111111111111"},
	} {
		for _, before := range []string{"", "1", "0101010"} {
			if b, ok := impl.PutRice(bitsOfText(before), c.n, c.k); !ok || !sameBits(b, bitsOfText(before+c.want)) {
				t.Errorf("PutRice(%s, %d, %d) = %s, %v", before, c.n, c.k, textOfBits(b), ok)
			}
			b := bitsOfText(before + c.want + "0")
			if n, next, ok := impl.GetRice(b, len(before), c.k); !ok || n != c.n || next != b.Count-1 {
				t.Errorf("GetRice of %d with %d = %d, %d, %v", c.n, c.k, n, next, ok)
			}
		}
	}
}

func TestPutRiceOfInvalidArguments(t *testing.T) {
	for _, c := range []struct{ n, k int }{
		{0, -1}, {0, 15}, {0, 64}, {251, 0}, {-251, 0}, {4104192, 14}, {-4104193, 14},
		{impl.MaxResidual, 0}, {impl.MaxResidual + 1, 14}, {-impl.MaxResidual - 1, 14},
		{math.MaxInt, 0}, {math.MinInt, 14}, {0, math.MaxInt}, {0, math.MinInt},
	} {
		if b, ok := impl.PutRice(bitsOfText("1"), c.n, c.k); ok || !isZero(b) {
			t.Errorf("PutRice(%d, %d) = %v, %v", c.n, c.k, b, ok)
		}
	}
	for name, b := range invalidBits() {
		if got, ok := impl.PutRice(b, 0, 0); ok || !isZero(got) {
			t.Errorf("PutRice to %s = %v, %v", name, got, ok)
		}
	}
}

func TestPutRiceUpToMaxBits(t *testing.T) {
	for _, c := range []struct{ n, k int }{{0, 0}, {5, 0}, {0, 14}, {-100, 3}, {250, 0}} {
		size := impl.RiceLength(c.n, c.k)
		if b, ok := impl.PutRice(zeros(impl.MaxBits-size), c.n, c.k); !ok || b.Count != impl.MaxBits {
			t.Errorf("PutRice(%d, %d) at the last place = %d bits, %v", c.n, c.k, b.Count, ok)
		}
		if b, ok := impl.PutRice(zeros(impl.MaxBits-size+1), c.n, c.k); ok || !isZero(b) {
			t.Errorf("PutRice(%d, %d) and one bit too many = %d bits, %v", c.n, c.k, b.Count, ok)
		}
	}
}

func TestGetRiceWithoutNumber(t *testing.T) {
	for _, c := range []struct {
		bits  string
		at, k int
	}{
		{"", 0, 0}, {"0", 0, 0}, {"0000000", 0, 3}, {"1", 0, 1}, {"100", 0, 3}, {"1", 1, 0}, {"1", 2, 0}, {"1", -1, 0},
		{"11111111", 8, 0}, {"11111111", 7, 1}, {"1", 0, -1}, {strings.Repeat("1", 40), 0, 15}, {strings.Repeat("1", 40), 0, 32},
		{unaryText(501), 0, 0}, {unaryText(501) + strings.Repeat("1", 20), 0, 14},
	} {
		if n, next, ok := impl.GetRice(bitsOfText(c.bits), c.at, c.k); ok || n != 0 || next != 0 {
			t.Errorf("GetRice(%s, %d, %d) = %d, %d, %v", c.bits, c.at, c.k, n, next, ok)
		}
	}
	for _, far := range farNumbers {
		for _, c := range [][2]int{{far, 0}, {0, far}} {
			if n, next, ok := impl.GetRice(bitsOfText("1111"), c[0], c[1]); ok || n != 0 || next != 0 {
				t.Errorf("GetRice(%d, %d) = %d, %d, %v", c[0], c[1], n, next, ok)
			}
		}
	}
	for name, b := range invalidBits() {
		if n, next, ok := impl.GetRice(b, 0, 0); ok || n != 0 || next != 0 {
			t.Errorf("GetRice of %s = %d, %d, %v", name, n, next, ok)
		}
	}
}

func TestP7SignedNumbersAreNumbered(t *testing.T) {
	r := rand.New(rand.NewSource(7))
	for range 2000 {
		n := someSigned(r)
		z := impl.Zigzag(n)
		if got, ok := impl.Unzigzag(z); !ok || got != n {
			t.Errorf("Unzigzag of Zigzag(%d) = %d, %v", n, got, ok)
		}
		if d := z - impl.Zigzag(-n); n != 0 && d != 1 && d != -1 {
			t.Errorf("Zigzag of %d and its opposite differ by %d", n, d)
		}
	}
}

func TestP8NumbersAreSignedNumbers(t *testing.T) {
	r := rand.New(rand.NewSource(8))
	for range 2000 {
		z := min(numberBelow(r, 23), 2*impl.MaxResidual)
		n, ok := impl.Unzigzag(z)
		if !ok || impl.Zigzag(n) != z || (z%2 == 0) != (n >= 0) {
			t.Errorf("Unzigzag(%d) = %d, %v", z, n, ok)
		}
	}
}

func TestP9UnaryNumbersCanBeRead(t *testing.T) {
	r := rand.New(rand.NewSource(9))
	for n := range impl.MaxUnary + 1 {
		b := someBits(r, r.Intn(50))
		x, ok := impl.PutUnary(b, n)
		if got, next, ok2 := impl.GetUnary(x, b.Count); !ok || !ok2 || got != n || next != x.Count {
			t.Errorf("GetUnary of %d = %d, %d, %v", n, got, next, ok2)
		}
		if textOfBits(x)[:b.Count] != textOfBits(b) {
			t.Errorf("PutUnary changes %v", b)
		}
	}
}

func TestP10UnaryNumbersEndWithAOne(t *testing.T) {
	r := rand.New(rand.NewSource(10))
	for range 1000 {
		b := someBits(r, 1+r.Intn(50))
		at := r.Intn(b.Count)
		n, next, ok := impl.GetUnary(b, at)
		if !ok && strings.Contains(textOfBits(b)[at:], "1") {
			t.Errorf("GetUnary(%s, %d) fails", textOfBits(b), at)
		}
		if ok && textOfBits(b)[at:next] != unaryText(n) {
			t.Errorf("GetUnary(%s, %d) = %d, %d", textOfBits(b), at, n, next)
		}
	}
}

func TestP11RiceCodesHaveTheirLength(t *testing.T) {
	r := rand.New(rand.NewSource(11))
	for range 1000 {
		b, n, k := someBits(r, r.Intn(50)), someSigned(r), r.Intn(impl.MaxRice+1)
		size := impl.RiceLength(n, k)
		x, ok := impl.PutRice(b, n, k)
		if ok != (size >= 0) || ok && x.Count != b.Count+size {
			t.Errorf("PutRice(%d, %d) has %d bits, RiceLength is %d", n, k, x.Count-b.Count, size)
		}
	}
}

func TestP12SmallNumbersWantSmallParameters(t *testing.T) {
	r := rand.New(rand.NewSource(12))
	for k := range impl.MaxRice + 1 {
		if got := impl.RiceLength(0, k); got != k+1 {
			t.Errorf("RiceLength(0, %d) = %d", k, got)
		}
		for range 200 {
			m, n := someSigned(r), someSigned(r)
			a, b := impl.RiceLength(m, k), impl.RiceLength(n, k)
			if a > 0 && b > 0 && impl.Zigzag(m) < impl.Zigzag(n) && a > b {
				t.Errorf("with %d, %d has %d bits and %d has %d", k, m, a, n, b)
			}
		}
	}
}

func TestP13RiceCodesCanBeRead(t *testing.T) {
	r := rand.New(rand.NewSource(13))
	for range 2000 {
		b, n, k := someBits(r, r.Intn(50)), someSigned(r), r.Intn(impl.MaxRice+1)
		x, ok := impl.PutRice(b, n, k)
		if !ok {
			continue
		}
		if got, next, ok := impl.GetRice(x, b.Count, k); !ok || got != n || next != x.Count {
			t.Errorf("GetRice of %d with %d = %d, %d, %v", n, k, got, next, ok)
		}
		if textOfBits(x)[:b.Count] != textOfBits(b) {
			t.Errorf("PutRice changes %v", b)
		}
	}
}

func TestP14WhatIsReadAsARiceCodeIsOne(t *testing.T) {
	r := rand.New(rand.NewSource(14))
	read := 0
	for range 2000 {
		b, k := someBits(r, 1+r.Intn(60)), r.Intn(impl.MaxRice+1)
		at := r.Intn(b.Count)
		n, next, ok := impl.GetRice(b, at, k)
		if !ok {
			continue
		}
		read++
		if x, ok := impl.PutRice(impl.Bits{}, n, k); !ok || textOfBits(x) != textOfBits(b)[at:next] {
			t.Errorf("GetRice(%s, %d, %d) = %d, %d", textOfBits(b), at, k, n, next)
		}
	}
	if read < 500 {
		t.Errorf("only %d Rice codes were read", read)
	}
}

func TestP128SmallNumbersComeFirst(t *testing.T) {
	r := rand.New(rand.NewSource(128))
	for range 2000 {
		m, n := someSigned(r), someSigned(r)
		if max(m, -m) < max(n, -n) && impl.Zigzag(m) >= impl.Zigzag(n) {
			t.Errorf("Zigzag(%d) = %d, Zigzag(%d) = %d", m, impl.Zigzag(m), n, impl.Zigzag(n))
		}
	}
}
