package tests

import (
	"math"
	"math/rand"
	"slices"
	"testing"

	"loop.example/losslessaudio/impl"
)

// farNumbers are arguments with which sums and differences leave the range of an int.
var farNumbers = []int{math.MinInt, math.MinInt + 1, -1 << 32, 1 << 32, math.MaxInt - 1, math.MaxInt}

// sameBits reports whether bits are the same; nil and empty slices are.
func sameBits(a impl.Bits, b impl.Bits) bool {
	return a.Count == b.Count && slices.Equal(a.Bytes, b.Bytes)
}

// isZero reports whether bits are the zero value.
func isZero(b impl.Bits) bool {
	return sameBits(b, impl.Bits{})
}

// bitsOfText returns the bits that a text of zeros and ones shows, formed without the program.
func bitsOfText(text string) impl.Bits {
	b := impl.Bits{Bytes: make([]int, (len(text)+7)/8), Count: len(text)}
	for i, c := range text {
		if c == '1' {
			b.Bytes[i/8] += 128 >> (i % 8)
		}
	}
	return b
}

// textOfBits is the reverse of bitsOfText.
func textOfBits(b impl.Bits) string {
	text := make([]byte, b.Count)
	for i := range text {
		text[i] = '0' + byte(b.Bytes[i/8]>>(7-i%8)&1)
	}
	return string(text)
}

// textOfNumber returns the lowest bits of a number, the highest one first.
func textOfNumber(n int, width int) string {
	text := make([]byte, width)
	for i := range text {
		text[i] = '0' + byte(n>>(width-1-i)&1)
	}
	return string(text)
}

// zeros returns count zero bits.
func zeros(count int) impl.Bits {
	return impl.Bits{Bytes: make([]int, (count+7)/8), Count: count}
}

// someBytes returns bytes that are the same in every run.
func someBytes(r *rand.Rand, count int) []int {
	list := make([]int, count)
	for i := range list {
		list[i] = r.Intn(256)
	}
	return list
}

// someBits returns valid bits that are the same in every run.
func someBits(r *rand.Rand, count int) impl.Bits {
	b := impl.Bits{Bytes: someBytes(r, (count+7)/8), Count: count}
	if count%8 > 0 {
		b.Bytes[count/8] &= 256 - 256>>(count%8)
	}
	return b
}

// numberBelow returns a number of at most width bits, often with few of them.
func numberBelow(r *rand.Rand, width int) int {
	return r.Intn(1 << r.Intn(width+1))
}

// invalidBits are all kinds of bits that are not valid.
func invalidBits() map[string]impl.Bits {
	return map[string]impl.Bits{
		"negative count":          {Count: -1},
		"count of -8 and a byte":  {Bytes: []int{0}, Count: -8},
		"smallest count":          {Count: math.MinInt},
		"greatest count":          {Count: math.MaxInt},
		"byte without bits":       {Bytes: []int{0}},
		"too few bytes":           {Bytes: []int{1}, Count: 9},
		"too many bytes":          {Bytes: []int{1, 0}, Count: 8},
		"no bytes":                {Count: 1},
		"negative byte":           {Bytes: []int{-128}, Count: 8},
		"byte of 256":             {Bytes: []int{256}, Count: 8},
		"byte of 256 in front":    {Bytes: []int{256, 0}, Count: 16},
		"last bit does not count": {Bytes: []int{1}, Count: 7},
		"ones behind one bit":     {Bytes: []int{192}, Count: 1},
		"ones in the second byte": {Bytes: []int{255, 8}, Count: 12},
		"one more than MaxBits":   zeros(impl.MaxBits + 1),
		"eight more than MaxBits": zeros(impl.MaxBits + 8),
	}
}

// invalidBytes are all kinds of lists that are not bytes.
func invalidBytes() map[string][]int {
	return map[string][]int{
		"negative":      {0, -1},
		"256":           {256, 0},
		"smallest":      {math.MinInt},
		"greatest":      {1, 2, math.MaxInt},
		"last too big":  {1, 2, 3, 256},
		"more than max": make([]int, impl.MaxBytes+1),
	}
}

// someSamples returns valid samples that are the same in every run: noise of any size, runs of equal ones, or a smooth line.
func someSamples(r *rand.Rand, count int) []int {
	list := make([]int, count)
	size, step, last := 1+r.Intn(1<<r.Intn(17)), r.Intn(2001)-1000, 0
	kind := r.Intn(4)
	for i := range list {
		switch kind {
		case 0:
			list[i] = r.Intn(2*size+1) - size
		case 1:
			list[i] = (r.Intn(2)*2 - 1) * impl.MaxSample
		case 2:
			last += r.Intn(3) - 1
			list[i] = last
		default:
			list[i] = i*step + r.Intn(3)
		}
	}
	return list
}

// smallNumbers returns numbers in -size..size that are the same in every run.
func smallNumbers(r *rand.Rand, count int, size int) []int {
	list := make([]int, count)
	for i := range list {
		list[i] = r.Intn(2*size+1) - size
	}
	return list
}

// invalidSamples are all kinds of lists that are not samples.
func invalidSamples() map[string][]int {
	return map[string][]int{
		"one more than MaxSample":       {0, 0, 0, 0, 0, 0, 0, 0, impl.MaxSample + 1},
		"one less than -MaxSample":      {-impl.MaxSample - 1, 0, 0, 0, 0, 0, 0, 0, 0},
		"greatest in the middle":        {0, 0, 0, 0, math.MaxInt, 0, 0, 0, 0},
		"smallest at the end":           {0, 0, 0, 0, 0, 0, 0, 0, math.MinInt},
		"far numbers that cancel":       {0, 1 << 32, -1 << 32, 0, 0, 0, 0, 0, 0},
		"one sample more than MaxBlock": make([]int, impl.MaxBlock+1),
		"many samples":                  make([]int, 1000),
	}
}

// invalidResiduals are all kinds of lists that are not residuals.
func invalidResiduals() map[string][]int {
	return map[string][]int{
		"one more than MaxResidual":     {impl.MaxResidual + 1},
		"one less than -MaxResidual":    {0, 0, -impl.MaxResidual - 1},
		"greatest":                      {math.MaxInt},
		"smallest":                      {0, math.MinInt},
		"far numbers that cancel":       {1 << 32, -1 << 32},
		"one number more than MaxBlock": make([]int, impl.MaxBlock+1),
		"many numbers":                  make([]int, 1000),
	}
}

// negated returns all numbers times -1.
func negated(list []int) []int {
	out := make([]int, len(list))
	for i, n := range list {
		out[i] = -n
	}
	return out
}

// roomy returns the same bytes with spare capacity full of marks.
func roomy(list []int) []int {
	long := append(slices.Clone(list), 77, 77, 77, 77, 77, 77, 77, 77)
	return long[:len(list)]
}

// checkUntouched fails if a roomy list differs from what it was, or shares memory with a result.
func checkUntouched(t *testing.T, list []int, was []int, result []int) {
	t.Helper()
	for i := range result[:cap(result)] {
		result[:cap(result)][i] = -5
	}
	if !slices.Equal(list, was) {
		t.Errorf("an argument %v became %v", was, list)
	}
	for _, n := range list[len(list):cap(list)][:8] {
		if n != 77 {
			t.Error("the spare capacity of an argument was written")
		}
	}
}
