package tests

import (
	"math/rand"
	"slices"
	"strings"
	"testing"

	"loop.example/losslessaudio/impl"
)

// wastedText returns a number of wasted bits as a subframe has it.
func wastedText(k int) string {
	if k == 0 {
		return "0"
	}
	return "1" + unaryText(k-1)
}

// signedText returns all numbers in width bits each, as their remainders.
func signedText(list []int, width int) string {
	text := ""
	for _, n := range list {
		text += textOfNumber(n, width)
	}
	return text
}

// dividedDown returns all numbers divided by 2^k, which leaves no rest.
func dividedDown(list []int, k int) []int {
	out := []int{}
	for _, n := range list {
		out = append(out, n/(1<<k))
	}
	return out
}

// residualText returns the shortest form of a valid residual.
func residualText(residual []int, order int) string {
	p, _ := slowPartition(residual, order)
	text, _ := slowResidual(residual, order, p)
	return text
}

// fixedText returns the subframe for a fixed predictor by its definition.
func fixedText(list []int, width int, order int) string {
	k := slowWasted(list)
	less := dividedDown(list, k)
	return textOfNumber(8+order, 7) + wastedText(k) + signedText(less[:order], width-k) + residualText(differences(less, order), order)
}

// linearText returns the subframe for a valid linear predictor by its definition, and true if there is one.
func linearText(list []int, width int, p impl.Linear) (string, bool) {
	k := slowWasted(list)
	less := dividedDown(list, k)
	residual, ok := slowLinear(less, p)
	if !ok {
		return "", false
	}
	order := len(p.Coefs)
	predictor := textOfNumber(p.Shift, 4) + signedText(p.Coefs, 13)
	return textOfNumber(32+order, 7) + wastedText(k) + signedText(less[:order], width-k) + predictor + residualText(residual, order), true
}

// plainText returns the subframe of a kind that stores some numbers without a predictor.
func plainText(kind int, k int, list []int, width int) string {
	return textOfNumber(kind, 7) + wastedText(k) + signedText(list, width-k)
}

// slowSubframe returns the best subframe by its definition, and how many kinds have one of its length.
func slowSubframe(list []int, width int) (string, int) {
	k := slowWasted(list)
	less := dividedDown(list, k)
	if slices.Min(list) == slices.Max(list) {
		return plainText(0, k, less[:1], width), 1
	}
	texts := []string{}
	for order := 0; order <= 4 && order <= len(list); order++ {
		texts = append(texts, fixedText(list, width, order))
	}
	texts = append(texts, plainText(1, k, less, width))
	best, same := "", 0
	for _, text := range texts {
		if best == "" || len(text) < len(best) {
			best, same = text, 1
		} else if len(text) == len(best) {
			same++
		}
	}
	return best, same
}

// binomials are the weights of the samples before, the last one first, for which the differences of each order are 0.
var binomials = [][]int{{}, {1}, {2, -1}, {3, -3, 1}, {4, -6, 4, -1}}

// restored returns the samples that begin with some and have a residual, and true unless one is too far away for every width.
func restored(first []int, residual []int, p impl.Linear) ([]int, bool) {
	list := slices.Clone(first)
	for _, n := range residual {
		sum := 0
		for i, c := range p.Coefs {
			sum += c * list[len(list)-1-i]
		}
		n += downOf(sum, 1<<p.Shift)
		if n < -65536 || n > 65536 {
			return nil, false
		}
		list = append(list, n)
	}
	return list, true
}

// takenSamples returns signed numbers in width bits each at the beginning of a text, and the rest of it.
func takenSamples(text string, count int, width int) ([]int, string, bool) {
	list := []int{}
	for range count {
		n, rest, ok := takenSigned(text, width)
		if !ok {
			return nil, "", false
		}
		list, text = append(list, n), rest
	}
	return list, text, true
}

// takenPredicted returns the samples behind the wasted bits of a subframe with a predictor, and the rest of the text.
func takenPredicted(kind int, text string, count int, width int) ([]int, string, bool) {
	p := impl.Linear{}
	order := kind - 32
	if kind <= 12 {
		order = kind - 8
		p.Coefs = binomials[order]
	}
	if order > count {
		return nil, "", false
	}
	first, text, ok := takenSamples(text, order, width)
	if ok && kind > 32 {
		p.Shift, text, ok = takenNumber(text, 4)
		if ok {
			p.Coefs, text, ok = takenSamples(text, order, 13)
		}
		if !ok || p.Shift > 14 || slices.Min(p.Coefs) < -4095 {
			return nil, "", false
		}
	}
	if !ok {
		return nil, "", false
	}
	residual, text, ok := takenResidual(text, count-order, order)
	if !ok {
		return nil, "", false
	}
	list, ok := restored(first, residual, p)
	return list, text, ok
}

// takenWasted returns the wasted bits at the beginning of a text, and the rest of it.
func takenWasted(text string) (int, string, bool) {
	if text == "" {
		return 0, "", false
	}
	if text[0] == '0' {
		return 0, text[1:], true
	}
	zeros := strings.Index(text[1:], "1")
	if zeros < 0 {
		return 0, "", false
	}
	return zeros + 1, text[2+zeros:], true
}

// takenSubframe returns the samples of the subframe at the beginning of a text, and the rest of it.
func takenSubframe(text string, count int, width int) ([]int, string, bool) {
	kind, text, ok := takenNumber(text, 7)
	if !ok {
		return nil, "", false
	}
	k, text, ok := takenWasted(text)
	if !ok || k >= width {
		return nil, "", false
	}
	var list []int
	switch {
	case kind == 0:
		list, text, ok = takenSamples(text, 1, width-k)
		list = slices.Repeat(list, count)
	case kind == 1:
		list, text, ok = takenSamples(text, count, width-k)
	case kind >= 8 && kind <= 12 || kind >= 33 && kind <= 40:
		list, text, ok = takenPredicted(kind, text, count, width-k)
	default:
		return nil, "", false
	}
	if !ok {
		return nil, "", false
	}
	for i := range list {
		list[i] *= 1 << k
	}
	if slices.Min(list) < -1<<(width-1) || slices.Max(list) > 1<<(width-1)-1 {
		return nil, "", false
	}
	return list, text, true
}

// inWidth returns numbers limited to a width.
func inWidth(list []int, width int) []int {
	out := []int{}
	for _, n := range list {
		out = append(out, min(max(n, -1<<(width-1)), 1<<(width-1)-1))
	}
	return out
}

// someWidth returns a width of samples.
func someWidth(r *rand.Rand) int {
	return impl.MinWidth + r.Intn(impl.MaxSampleWidth-impl.MinWidth+1)
}

// someBlock returns samples of a width that are the same in every run: noise, equal ones, curves, only the limits, or multiples of a power of 2.
func someBlock(r *rand.Rand, width int) []int {
	count := 1 + r.Intn(impl.MaxBlock)
	if r.Intn(3) == 0 {
		count = 1 + r.Intn(9)
	}
	half := 1 << (width - 1)
	list := smallNumbers(r, count, r.Intn(1<<r.Intn(width)))
	switch r.Intn(6) {
	case 0:
		list = slices.Repeat([]int{r.Intn(2*half) - half}, count)
	case 1:
		n, step, bend := r.Intn(half), r.Intn(41)-20, r.Intn(5)-2
		for i := range list {
			list[i] = n + i*step + i*i*bend + r.Intn(2)
		}
	case 2:
		for i := range list {
			list[i] = (half-1)*r.Intn(2) - half*r.Intn(2)
		}
	case 3:
		k := r.Intn(width)
		for i := range list {
			list[i] = (r.Intn(2*half>>k) - half>>k) << k
		}
	}
	return inWidth(list, width)
}

// somePlan returns a predictor that misses few of some samples.
func somePlan(r *rand.Rand) impl.Linear {
	if r.Intn(2) == 0 {
		return somePredictor(r)
	}
	p := impl.Linear{Coefs: slices.Clone(binomials[1+r.Intn(4)]), Shift: r.Intn(11)}
	for i := range p.Coefs {
		p.Coefs[i] = min(max(p.Coefs[i]<<p.Shift+r.Intn(3)-1, -impl.MaxCoef), impl.MaxCoef)
	}
	return p
}

// invalidBlocks are all kinds of samples that do not fit into a width, and no samples.
func invalidBlocks(width int) map[string][]int {
	half := 1 << (width - 1)
	all := map[string][]int{
		"nothing":                       nil,
		"an empty list":                 {},
		"one more than the greatest":    {0, 0, 0, 0, half},
		"one less than the smallest":    {-half - 1, 0, 0, 0, 0},
		"only one more":                 {half},
		"only one less":                 {-half - 1},
		"equal ones that are too great": {half, half, half, half, half},
		"equal ones that are too small": {-2 * half, -2 * half, -2 * half, -2 * half, -2 * half},
		"one sample more than MaxBlock": make([]int, impl.MaxBlock+1),
		"different ones, one too many":  append(make([]int, impl.MaxBlock), 1),
		"many samples":                  make([]int, 1000),
	}
	for i, n := range farNumbers {
		all["far "+string(rune('a'+i))] = []int{0, 0, n, 0, 0, 0}
		all["equal and far "+string(rune('a'+i))] = []int{n, n, n, n, n, n}
	}
	return all
}

// invalidWidths are numbers that are no widths of samples.
var invalidWidths = append([]int{-17, -1, 0, 1, impl.MinWidth - 1, impl.MaxSampleWidth + 1, 32, 63, 64, 65}, farNumbers...)

// checkBits fails if a subframe is not the wanted one.
func checkBits(t *testing.T, what string, b impl.Bits, ok bool, want string) {
	t.Helper()
	if !ok || !sameBits(b, bitsOfText(want)) {
		t.Errorf("%s = %s, %v instead of %s", what, textOfBits(b), ok, want)
	}
}

// checkNoBits fails if there is a subframe.
func checkNoBits(t *testing.T, what string, b impl.Bits, ok bool) {
	t.Helper()
	if ok || !isZero(b) {
		t.Errorf("%s = %v, %v", what, b, ok)
	}
}

// checkSamples fails if a text does not begin with a subframe of some samples, or if any of its bits can be missing.
func checkSamples(t *testing.T, text string, width int, want []int) {
	t.Helper()
	list, next, ok := impl.DecodeSubframe(bitsOfText(text+"1"), 0, len(want), width)
	if !ok || next != len(text) || !slices.Equal(list, want) {
		t.Errorf("DecodeSubframe(%s, %d, %d) = %v, %d, %v instead of %v", text, len(want), width, list, next, ok, want)
	}
	for size := range text {
		checkNoSamples(t, "a part", bitsOfText(text[:size]), 0, len(want), width)
	}
}

// checkNoSamples fails if DecodeSubframe finds a subframe.
func checkNoSamples(t *testing.T, what string, b impl.Bits, at int, count int, width int) {
	t.Helper()
	if list, next, ok := impl.DecodeSubframe(b, at, count, width); ok || len(list) > 0 || next != 0 {
		t.Errorf("DecodeSubframe of %s, %d, %d, %d = %v, %d, %v", what, at, count, width, list, next, ok)
	}
}

// without returns a text without its spaces.
func without(text string) string {
	return strings.ReplaceAll(text, " ", "")
}

func TestLimitsOfSubframes(t *testing.T) {
	if impl.MinWidth != 4 || impl.MaxSampleWidth != 17 || impl.KindConstant != 0 || impl.KindVerbatim != 1 || impl.KindFixed != 8 || impl.KindLinear != 32 {
		t.Error("a limit or a kind is wrong")
	}
}

func TestEncodeFixedExamples(t *testing.T) {
	for _, c := range []struct {
		list         []int
		width, order int
		want         string
	}{
		{[]int{0}, 4, 0, "0001000 0 00 0000 1"}, {[]int{7}, 4, 1, "0001001 0 0111 00 0000"}, {[]int{-7}, 4, 1, "0001001 0 1001 00 0000"},
		{[]int{1, 2}, 5, 2, "0001010 0 00001 00010 00 0000"}, {[]int{1, 2, 4}, 4, 2, "0001010 0 0001 0010 00 0000 001"},
		{[]int{1, 3, 6, 7}, 4, 3, "0001011 0 0001 0011 0110 00 0001 0011"}, {[]int{1, 2, 3, 5}, 4, 4, "0001100 0 0001 0010 0011 0101 00 0000"},
		{[]int{0, 0, 0, 0, 0}, 4, 4, "0001100 0 0000 0000 0000 0000 00 0000 1"}, {[]int{0, 0, 0}, 17, 1, "0001001 0 00000000000000000 00 0000 1 1"},
		// The numbers of zeros in front of the second one are the wasted bits without one.
		{[]int{2}, 4, 1, "0001001 11 001 00 0000"}, {[]int{-4, 4}, 4, 1, "0001001 101 11 00 0001 0010"}, {[]int{-8}, 4, 1, "0001001 1001 1 00 0000"},
		{[]int{-8}, 4, 0, "0001000 1001 00 0000 01"}, {[]int{0, -32768}, 16, 1, "0001001 1000000000000001 0 00 0000 01"},
		{[]int{-65536}, 17, 1, "0001001 10000000000000001 1 00 0000"}, {[]int{-65536, 65535}, 17, 1, "0001001 0 10000000000000000 00 1111 10010 011111111111111111"},
		{[]int{-1, 0, -1, 0, -1, 0}, 4, 0, "0001000 0 00 0000 01 1 01 1 01 1"}, {[]int{5, 4, 3, 2, 1, 0, -1}, 4, 1, "0001001 0 0101 00 1111 00001 111111"},
	} {
		b, ok := impl.EncodeFixed(c.list, c.width, c.order)
		checkBits(t, "EncodeFixed", b, ok, without(c.want))
		checkSamples(t, without(c.want), c.width, c.list)
	}
}

func TestEncodeFixedFollowsItsDefinition(t *testing.T) {
	r := rand.New(rand.NewSource(1))
	for range 700 {
		width, order := someWidth(r), r.Intn(impl.MaxFixed+1)
		list := someBlock(r, width)
		b, ok := impl.EncodeFixed(list, width, order)
		if order > len(list) {
			checkNoBits(t, "EncodeFixed of an order too great", b, ok)
			continue
		}
		checkBits(t, "EncodeFixed", b, ok, fixedText(list, width, order))
	}
}

func TestEncodeFixedOfInvalidArguments(t *testing.T) {
	for width := impl.MinWidth; width <= impl.MaxSampleWidth; width++ {
		for name, list := range invalidBlocks(width) {
			for order := range impl.MaxFixed + 1 {
				b, ok := impl.EncodeFixed(list, width, order)
				checkNoBits(t, "EncodeFixed of "+name, b, ok)
			}
		}
	}
	for _, width := range invalidWidths {
		for _, list := range [][]int{{0}, {0, 0, 0, 0, 0}, {-1, 0, 0, -1}} {
			b, ok := impl.EncodeFixed(list, width, 0)
			checkNoBits(t, "EncodeFixed of a width that is none", b, ok)
		}
	}
	long := make([]int, impl.MaxBlock)
	for _, order := range append([]int{-9, -8, -7, -1, 5, 8, 24, 25, 32, 64, 119, 120}, farNumbers...) {
		b, ok := impl.EncodeFixed(long, 8, order)
		checkNoBits(t, "EncodeFixed of an order that is none", b, ok)
	}
	for order := 1; order <= impl.MaxFixed; order++ {
		b, ok := impl.EncodeFixed(long[:order-1], 8, order)
		checkNoBits(t, "EncodeFixed of too few samples", b, ok)
	}
}

func TestEncodeLinearExamples(t *testing.T) {
	for _, c := range []struct {
		list  []int
		width int
		p     impl.Linear
		want  string
	}{
		{[]int{5}, 4, impl.Linear{Coefs: []int{1}}, "0100001 0 0101 0000 0000000000001 00 0000"},
		{[]int{1, 2, 4, 7}, 4, impl.Linear{Coefs: []int{3}, Shift: 1}, "0100001 0 0001 0001 0000000000011 00 0000 001 001 001"},
		{[]int{1, -2}, 4, impl.Linear{Coefs: []int{-1}, Shift: 14}, "0100001 0 0001 1110 1111111111111 00 0000 01"},
		{[]int{1, 2, 2}, 5, impl.Linear{Coefs: []int{2, -1}}, "0100010 0 00001 00010 0000 0000000000010 1111111111111 00 0000 01"},
		{[]int{0}, 4, impl.Linear{Coefs: []int{impl.MaxCoef}}, "0100001 0 0000 0000 0111111111111 00 0000"},
		{[]int{0}, 4, impl.Linear{Coefs: []int{-impl.MaxCoef}}, "0100001 0 0000 0000 1000000000001 00 0000"},
		// The coefficients are for the samples without their wasted bits.
		{[]int{4, -4}, 4, impl.Linear{Coefs: []int{1}, Shift: 1}, "0100001 101 01 0001 0000000000001 00 0000 01"},
		{[]int{-65536, 0}, 17, impl.Linear{Coefs: []int{1}}, "0100001 10000000000000001 1 0000 0000000000001 00 0000 001"},
		{[]int{-7, -6, -5, -4, -3, -2, -1, 0}, 4, impl.Linear{Coefs: make([]int, 8), Shift: 3}, "0101000 0 1001 1010 1011 1100 1101 1110 1111 0000 0011" + strings.Repeat(" 0000000000000", 8) + " 00 0000"},
	} {
		b, ok := impl.EncodeLinear(c.list, c.width, c.p)
		checkBits(t, "EncodeLinear", b, ok, without(c.want))
		checkSamples(t, without(c.want), c.width, c.list)
	}
}

func TestEncodeLinearFollowsItsDefinition(t *testing.T) {
	r := rand.New(rand.NewSource(2))
	made, none := 0, 0
	for range 700 {
		width := someWidth(r)
		list, p := someBlock(r, width), somePlan(r)
		b, ok := impl.EncodeLinear(list, width, p)
		want, possible := linearText(list, width, p)
		if possible {
			made++
			checkBits(t, "EncodeLinear", b, ok, want)
		} else {
			none++
			checkNoBits(t, "EncodeLinear without a residual", b, ok)
		}
	}
	if made < 400 || none < 20 {
		t.Errorf("%d subframes were made, and %d not", made, none)
	}
}

func TestEncodeLinearOfResidualsAtTheLimit(t *testing.T) {
	// 1024 times 4095 is 4193280, and 1023 more are MaxResidual.
	p := impl.Linear{Coefs: []int{-impl.MaxCoef}}
	b, ok := impl.EncodeLinear([]int{1024, 1023}, 17, p)
	want, _ := linearText([]int{1024, 1023}, 17, p)
	checkBits(t, "EncodeLinear", b, ok, want)
	checkSamples(t, want, 17, []int{1024, 1023})
	b, ok = impl.EncodeLinear([]int{1025, 1023}, 17, p)
	checkNoBits(t, "EncodeLinear of a residual too great", b, ok)
	// The wasted bits do not count.
	b, ok = impl.EncodeLinear([]int{2048, 2046}, 17, p)
	want, _ = linearText([]int{2048, 2046}, 17, p)
	checkBits(t, "EncodeLinear", b, ok, want)
	b, ok = impl.EncodeLinear([]int{2048, 2047}, 17, p)
	checkNoBits(t, "EncodeLinear of a residual that is too great without wasted bits", b, ok)
}

func TestEncodeLinearOfInvalidArguments(t *testing.T) {
	p := impl.Linear{Coefs: []int{1}}
	for width := impl.MinWidth; width <= impl.MaxSampleWidth; width++ {
		for name, list := range invalidBlocks(width) {
			b, ok := impl.EncodeLinear(list, width, p)
			checkNoBits(t, "EncodeLinear of "+name, b, ok)
		}
	}
	for _, width := range invalidWidths {
		b, ok := impl.EncodeLinear([]int{0, -1, 0}, width, p)
		checkNoBits(t, "EncodeLinear of a width that is none", b, ok)
	}
	for name, p := range invalidPredictors() {
		b, ok := impl.EncodeLinear(make([]int, impl.MaxBlock), 8, p)
		checkNoBits(t, "EncodeLinear with a predictor, "+name, b, ok)
	}
	for order := 1; order <= impl.MaxOrder; order++ {
		p := impl.Linear{Coefs: make([]int, order)}
		b, ok := impl.EncodeLinear(make([]int, order-1), 8, p)
		checkNoBits(t, "EncodeLinear of too few samples", b, ok)
		if _, ok := impl.EncodeLinear(make([]int, order), 8, p); !ok {
			t.Errorf("EncodeLinear of %d samples and coefficients fails", order)
		}
	}
}

func TestBestSubframeExamples(t *testing.T) {
	for _, c := range []struct {
		list  []int
		width int
		want  string
	}{
		{[]int{5, 5, 5}, 8, "0000000 0 00000101"}, {[]int{4, 4}, 8, "0000000 101 000001"}, {[]int{0}, 4, "0000000 0 0000"}, {[]int{-1}, 4, "0000000 0 1111"},
		{[]int{-8}, 4, "0000000 1001 1"}, {[]int{-65536, -65536}, 17, "0000000 10000000000000001 1"}, {[]int{65535}, 17, "0000000 0 01111111111111111"},
		// The fixed predictor of order 0 would be shorter.
		{make([]int, impl.MaxBlock), 17, "0000000 0 00000000000000000"},
		{[]int{7, -8}, 4, "0000001 0 0111 1000"}, {[]int{2, -2}, 4, "0000001 11 001 111"}, {[]int{0, 1, 0}, 4, "0001000 0 00 0000 1 001 1"}, {[]int{-8, 0}, 4, "0000001 1001 1 0"},
		{[]int{0, 0, 0, 1}, 4, "0001000 0 00 0000 1 1 1 001"}, {[]int{100, 100, 100, 99, 99}, 8, "0001001 0 01100100 00 0000 1 1 01 1"},
		{[]int{0, 20, 40, 60, 80, 100}, 8, "0001010 101 000000 000101 00 0000 1 1 1 1"},
	} {
		b, ok := impl.BestSubframe(c.list, c.width)
		checkBits(t, "BestSubframe", b, ok, without(c.want))
		checkSamples(t, without(c.want), c.width, c.list)
	}
}

func TestBestSubframeFollowsItsDefinition(t *testing.T) {
	r := rand.New(rand.NewSource(3))
	found, tied := map[string]int{}, map[string]int{}
	for i := range 1200 {
		width := someWidth(r)
		list := someBlock(r, width)
		switch i % 4 {
		case 1:
			list = inWidth(smallNumbers(r, 2+r.Intn(6), 3), width)
		case 2:
			// What predictors of higher orders miss least of.
			plan := impl.Linear{Coefs: binomials[3+r.Intn(2)]}
			smooth, ok := restored(smallNumbers(r, len(plan.Coefs), 2), smallNumbers(r, 12, 1), plan)
			if ok {
				width = impl.MaxSampleWidth
				list = inWidth(smooth, width)
			}
		}
		want, same := slowSubframe(list, width)
		b, ok := impl.BestSubframe(list, width)
		checkBits(t, "BestSubframe", b, ok, want)
		found[want[:7]]++
		if same > 1 {
			tied[want[:7]]++
		}
	}
	if len(found) != 7 || len(tied) < 4 {
		t.Errorf("the samples have the kinds %v, and with ties %v", found, tied)
	}
}

func TestBestSubframeOfInvalidArguments(t *testing.T) {
	for width := impl.MinWidth; width <= impl.MaxSampleWidth; width++ {
		half := 1 << (width - 1)
		for name, list := range invalidBlocks(width) {
			b, ok := impl.BestSubframe(list, width)
			checkNoBits(t, "BestSubframe of "+name, b, ok)
		}
		for _, list := range [][]int{{half - 1}, {-half}, {-half, half - 1}, slices.Repeat([]int{half - 1, -half}, 32)} {
			want, _ := slowSubframe(list, width)
			b, ok := impl.BestSubframe(list, width)
			checkBits(t, "BestSubframe", b, ok, want)
		}
	}
	for _, width := range invalidWidths {
		for _, list := range [][]int{{0}, {0, 0, 0}, {0, -1, 0}} {
			b, ok := impl.BestSubframe(list, width)
			checkNoBits(t, "BestSubframe of a width that is none", b, ok)
		}
	}
}

func TestSubframesWithWastedBits(t *testing.T) {
	for width := impl.MinWidth; width <= impl.MaxSampleWidth; width++ {
		for k := range width {
			// The smallest sample of the width, and the others that are left.
			for _, list := range [][]int{{-1 << k}, {-1 << k, 0, 0}, {0, -1 << k, -2 << k}, {-1 << k, -1 << k}} {
				list = inWidth(list, width)
				want, _ := slowSubframe(list, width)
				b, ok := impl.BestSubframe(list, width)
				checkBits(t, "BestSubframe", b, ok, want)
				checkSamples(t, want, width, list)
				for order := range min(len(list), impl.MaxFixed) + 1 {
					b, ok := impl.EncodeFixed(list, width, order)
					checkBits(t, "EncodeFixed", b, ok, fixedText(list, width, order))
					checkSamples(t, fixedText(list, width, order), width, list)
				}
				p := impl.Linear{Coefs: []int{1}}
				text, _ := linearText(list, width, p)
				b, ok = impl.EncodeLinear(list, width, p)
				checkBits(t, "EncodeLinear", b, ok, text)
				checkSamples(t, text, width, list)
			}
		}
	}
}

func TestDecodeSubframeOfAnyWastedBits(t *testing.T) {
	for width := impl.MinWidth; width <= impl.MaxSampleWidth; width++ {
		for k := range width {
			list := []int{0, -1, -1, 0}
			times := []int{0, -1 << k, -1 << k, 0}
			checkSamples(t, plainText(0, k, list[:1], width), width, make([]int, 4))
			checkSamples(t, plainText(0, k, list[1:2], width), width, slices.Repeat([]int{-1 << k}, 64))
			checkSamples(t, plainText(1, k, list, width), width, times)
			checkSamples(t, plainText(9, k, list[:1], width)+residualText([]int{-1, 0, 1}, 1), width, times)
			checkSamples(t, plainText(33, k, list[:1], width)+"0000"+textOfNumber(1, 13)+residualText([]int{-1, 0, 1}, 1), width, times)
		}
		for k := width; k < width+4; k++ {
			for _, kind := range []int{0, 1, 8, 9, 33} {
				text := textOfNumber(kind, 7) + wastedText(k) + strings.Repeat("0", 9) + strings.Repeat("01", 40)
				checkNoSamples(t, "too many wasted bits", bitsOfText(text), 0, 1, width)
			}
		}
	}
	for _, k := range []int{63, 64, 65, 500, 501, 502} {
		checkNoSamples(t, "far too many wasted bits", bitsOfText(plainText(0, k, nil, k)+strings.Repeat("0", 100)), 0, 1, 8)
	}
}

func TestDecodeSubframeOfAnyKind(t *testing.T) {
	r := rand.New(rand.NewSource(4))
	for kind := range 128 {
		found := 0
		for range 30 {
			text := textOfNumber(kind, 7) + "0" + textOfBits(someBits(r, 600))
			list, rest, possible := takenSubframe(text, 9, 12)
			got, next, ok := impl.DecodeSubframe(bitsOfText(text), 0, 9, 12)
			if ok != possible || ok && (next != len(text)-len(rest) || !slices.Equal(got, list)) || !ok && (next != 0 || len(got) > 0) {
				t.Errorf("DecodeSubframe(%s) = %v, %d, %v instead of %v", text, got, next, ok, list)
			}
			if ok {
				found++
			}
		}
		exists := kind < 2 || kind >= 8 && kind <= 12 || kind >= 33 && kind <= 40
		if !exists && found > 0 || kind < 2 && found != 30 {
			t.Errorf("the kind %d was found %d times", kind, found)
		}
		// Zeros are samples of every kind that exists.
		text := textOfNumber(kind, 7) + strings.Repeat("0", 300)
		if exists && kind > 1 {
			order := kind % 8
			if kind == 40 {
				order = 8
			}
			text = textOfNumber(kind, 7) + "0" + strings.Repeat("0", 12*order)
			if kind > 32 {
				text += strings.Repeat("0", 4+13*order)
			}
			text += residualText(make([]int, 9-order), order)
		}
		if list, _, ok := impl.DecodeSubframe(bitsOfText(text), 0, 9, 12); ok != exists || ok && !slices.Equal(list, make([]int, 9)) {
			t.Errorf("DecodeSubframe of zeros of the kind %d = %v, %v", kind, list, ok)
		}
	}
}

func TestDecodeSubframeOfAnyBits(t *testing.T) {
	r := rand.New(rand.NewSource(5))
	kinds := []int{0, 1, 8, 9, 10, 11, 12, 33, 34, 36, 40}
	read, none := map[int]int{}, map[int]int{}
	for i := range 6000 {
		kind, width, count := kinds[i%len(kinds)], someWidth(r), 1+r.Intn(12)
		text := textOfNumber(kind, 7)
		if r.Intn(2) == 0 {
			text += "0"
		}
		text += textOfBits(someBits(r, r.Intn(250)))
		list, rest, possible := takenSubframe(text, count, width)
		before := textOfBits(someBits(r, r.Intn(20)))
		got, next, ok := impl.DecodeSubframe(bitsOfText(before+text), len(before), count, width)
		if ok != possible || ok && (next != len(before+text)-len(rest) || !slices.Equal(got, list)) || !ok && (next != 0 || len(got) > 0) {
			t.Errorf("DecodeSubframe(%s, %d, %d, %d) = %v, %d, %v instead of %v", before+text, len(before), count, width, got, next, ok, list)
		}
		if ok {
			read[kind]++
		} else {
			none[kind]++
		}
	}
	for _, kind := range kinds {
		if none[kind] == 0 || kind < 33 && read[kind] < 5 {
			t.Errorf("%d subframes of the kind %d were read, and %d not", read[kind], kind, none[kind])
		}
	}
}

func TestDecodeSubframeOfAnyResidual(t *testing.T) {
	// Neither the number of partitions nor the parameters need be the best ones, and samples may reach the limits.
	for _, c := range []struct {
		text  string
		width int
		want  []int
	}{
		{"0001000 0 01 1110 1 00000000000010 0000 01", 4, []int{1, -1}}, {"0001000 0 00 1111 11111 0000000000000000000000000000001", 4, []int{1}},
		{"0001000 0 00 1111 00100 0111", 4, []int{7}}, {"0001000 0 00 1111 00100 1000", 4, []int{-8}}, {"0001001 0 0111 00 1111 00000", 4, []int{7}},
		{"0001001 0 0111 00 0000 01", 4, []int{7, 6}}, {"0001010 0 0110 0111 00 0000 01", 4, []int{6, 7, 7}}, {"0001001 11 011 00 0000 01", 4, []int{6, 4}},
		{"0001001 1001 0 00 0000 01", 4, []int{0, -8}}, {"0001000 10000000000000001 00 0000 01", 17, []int{-65536}},
		{"0001000 0 00 1111 10010 001111111111111111", 17, []int{65535}}, {"0001000 0 00 1111 10010 110000000000000000", 17, []int{-65536}},
		{"0100001 0 01111111111111111 0000 0000000000001 00 0000 1", 17, []int{65535, 65535}}, {"0100001 0 10000000000000000 0000 0000000000001 00 0000 1", 17, []int{-65536, -65536}},
	} {
		checkSamples(t, without(c.text), c.width, c.want)
	}
	for _, c := range []struct {
		text         string
		width, count int
	}{
		{"0001000 0 00 1111 11111 0000000000000000000000000001000", 4, 1}, {"0001000 0 00 1111 00101 01000", 4, 1}, {"0001000 0 00 1111 00101 10111", 4, 1},
		{"0001001 0 0111 00 0000 001", 4, 2}, {"0001001 0 1000 00 0000 01", 4, 2}, {"0001010 0 0110 0111 00 0000 1", 4, 3},
		// A sample between others that is too great or too small.
		{"0001001 0 0111 00 0000 001 01", 4, 3}, {"0001001 0 1000 00 0000 01 001", 4, 3},
		{"0001001 11 011 00 0000 001", 4, 2}, {"0001001 11 100 00 0000 01", 4, 2}, {"0001001 1001 0 00 0000 001", 4, 2}, {"0001000 10000000000000001 00 0000 001", 17, 1},
		// The greatest number that FixedRestore and LinearRestore accept does not fit into any width, and the next ones they do not accept.
		{"0001000 0 00 1111 10010 010000000000000000", 17, 1}, {"0001000 0 00 1111 10010 010000000000000001", 17, 1}, {"0001000 0 00 1111 10010 101111111111111111", 17, 1},
		{"0100001 0 01111111111111111 0000 0000000000001 00 0000 001", 17, 2}, {"0100001 0 01111111111111111 0000 0000000000001 00 0000 00001", 17, 2}, {"0100001 0 10000000000000000 0000 0000000000001 00 0000 01", 17, 2},
	} {
		checkNoSamples(t, "samples out of the width", bitsOfText(without(c.text)), 0, c.count, c.width)
	}
}

func TestDecodeSubframeOfInvalidPredictors(t *testing.T) {
	for order := 1; order <= impl.MaxOrder; order++ {
		first := make([]int, order)
		for shift := range 16 {
			for _, c := range []int{0, 1, -1, impl.MaxCoef, -impl.MaxCoef, -impl.MaxCoef - 1} {
				for at := range order {
					coefs := make([]int, order)
					coefs[at] = c
					text := plainText(32+order, 0, first, 6) + textOfNumber(shift, 4) + signedText(coefs, 13) + residualText([]int{0, 0}, order)
					if shift > impl.MaxShift || c < -impl.MaxCoef {
						checkNoSamples(t, "an invalid predictor", bitsOfText(text), 0, order+2, 6)
						// Even if it predicts nothing.
						short := text[:len(text)-2]
						checkNoSamples(t, "an invalid predictor", bitsOfText(short), 0, order, 6)
						continue
					}
					list, next, ok := impl.DecodeSubframe(bitsOfText(text), 0, order+2, 6)
					if !ok || next != len(text) || !slices.Equal(list, make([]int, order+2)) {
						t.Errorf("DecodeSubframe(%s) = %v, %d, %v", text, list, next, ok)
					}
				}
			}
		}
	}
}

func TestDecodeSubframeOfOrdersUpToTheCount(t *testing.T) {
	for order := 1; order <= impl.MaxOrder; order++ {
		first := smallNumbers(rand.New(rand.NewSource(int64(order))), order, 7)
		texts := []string{plainText(32+order, 0, first, 5) + "0000" + signedText(make([]int, order), 13)}
		if order <= impl.MaxFixed {
			texts = append(texts, plainText(8+order, 0, first, 5))
		}
		for _, text := range texts {
			checkSamples(t, text+"00"+"0000", 5, first)
			for count := 1; count < order; count++ {
				checkNoSamples(t, "an order too great", bitsOfText(text+"00"+"0000"+strings.Repeat("1", 20)), 0, count, 5)
			}
			// As many samples as there can be.
			all := append(slices.Clone(first), make([]int, impl.MaxBlock-order)...)
			residual := make([]int, impl.MaxBlock-order)
			if order <= impl.MaxFixed && text == texts[1] {
				residual = differences(all, order)
			}
			checkSamples(t, text+residualText(residual, order), 5, all)
		}
	}
}

func TestDecodeSubframeOfInvalidArguments(t *testing.T) {
	b := zeros(200)
	for _, count := range append([]int{-64, -1, 0, impl.MaxBlock + 1, 100}, farNumbers...) {
		checkNoSamples(t, "zeros", b, 0, count, 8)
		checkNoSamples(t, "all samples", bitsOfText("0000001"+strings.Repeat("0", 2000)), 0, count, 8)
	}
	for _, width := range invalidWidths {
		checkNoSamples(t, "zeros", b, 0, 1, width)
		checkNoSamples(t, "all samples", bitsOfText("0000001"+strings.Repeat("0", 2000)), 0, 5, width)
	}
	for _, at := range append([]int{-1, -8, 185, 199, 200, 201}, farNumbers...) {
		checkNoSamples(t, "zeros", b, at, 1, 8)
	}
	if list, next, ok := impl.DecodeSubframe(b, 184, 1, 8); !ok || next != 200 || !slices.Equal(list, []int{0}) {
		t.Errorf("DecodeSubframe at the end = %v, %d, %v", list, next, ok)
	}
	if list, next, ok := impl.DecodeSubframe(zeros(impl.MaxBits), impl.MaxBits-16, impl.MaxBlock, 8); !ok || next != impl.MaxBits || !slices.Equal(list, make([]int, impl.MaxBlock)) {
		t.Errorf("DecodeSubframe at the end of MaxBits bits = %v, %d, %v", list, next, ok)
	}
	for name, b := range invalidBits() {
		checkNoSamples(t, name, b, 0, 1, 4)
	}
}

func TestSubframesTouchNothing(t *testing.T) {
	for _, was := range [][]int{{3, -1, 12, 4, 5, 7}, {6, 6, 6, 6}, {0, 2, 4, 6, 8, 10, 12, 14}, {-8, 7, -8, 7}} {
		for _, encode := range []func(list []int) (impl.Bits, bool){
			func(list []int) (impl.Bits, bool) { return impl.EncodeFixed(list, 5, 2) },
			func(list []int) (impl.Bits, bool) {
				return impl.EncodeLinear(list, 5, impl.Linear{Coefs: []int{2, -1}})
			},
			func(list []int) (impl.Bits, bool) { return impl.BestSubframe(list, 5) },
		} {
			list := roomy(was)
			b, ok := encode(list)
			if !ok {
				t.Fatalf("no subframe of %v", was)
			}
			wanted := slices.Clone(b.Bytes)
			checkUntouched(t, list, was, b.Bytes)
			b = impl.Bits{Bytes: roomy(wanted), Count: b.Count}
			out, _, ok := impl.DecodeSubframe(b, 0, len(was), 5)
			if !ok || !slices.Equal(out, was) {
				t.Errorf("DecodeSubframe = %v, %v", out, ok)
			}
			checkUntouched(t, b.Bytes, wanted, out)
		}
	}
	was := []int{2, -1, 0}
	p := impl.Linear{Coefs: roomy(was), Shift: 1}
	b, _ := impl.EncodeLinear([]int{1, 2, 3, 4}, 5, p)
	checkUntouched(t, p.Coefs, was, b.Bytes)
}

func TestP54SubframesCanBeRead(t *testing.T) {
	r := rand.New(rand.NewSource(54))
	for range 1000 {
		width := someWidth(r)
		list := someBlock(r, width)
		for order := range min(impl.MaxFixed, len(list)) + 1 {
			b, ok := impl.EncodeFixed(list, width, order)
			got, next, ok2 := impl.DecodeSubframe(b, 0, len(list), width)
			if !ok || !ok2 || next != b.Count || !slices.Equal(got, list) {
				t.Errorf("DecodeSubframe of EncodeFixed(%v, %d, %d) = %v, %d, %v", list, width, order, got, next, ok2)
			}
		}
	}
}

func TestP55LinearSubframesCanBeRead(t *testing.T) {
	r := rand.New(rand.NewSource(55))
	read := 0
	for range 2000 {
		width := someWidth(r)
		list, p := someBlock(r, width), somePlan(r)
		b, ok := impl.EncodeLinear(list, width, p)
		if !ok {
			continue
		}
		read++
		got, next, ok := impl.DecodeSubframe(b, 0, len(list), width)
		if !ok || next != b.Count || !slices.Equal(got, list) {
			t.Errorf("DecodeSubframe of EncodeLinear(%v, %d, %v) = %v, %d, %v", list, width, p, got, next, ok)
		}
	}
	for _, p := range predictorsAtLimits() {
		list := smallNumbers(r, impl.MaxBlock, 31)
		b, ok := impl.EncodeLinear(list, 6, p)
		got, next, ok2 := impl.DecodeSubframe(b, 0, len(list), 6)
		if !ok || !ok2 || next != b.Count || !slices.Equal(got, list) {
			t.Errorf("DecodeSubframe of EncodeLinear(%v, 6, %v) = %v, %d, %v", list, p, got, next, ok2)
		}
	}
	if read < 1000 {
		t.Errorf("only %d subframes were read", read)
	}
}

func TestP56TheBestSubframeCanBeRead(t *testing.T) {
	r := rand.New(rand.NewSource(56))
	for range 1000 {
		width := someWidth(r)
		list := someBlock(r, width)
		b, ok := impl.BestSubframe(list, width)
		got, next, ok2 := impl.DecodeSubframe(b, 0, len(list), width)
		if !ok || !ok2 || next != b.Count || !slices.Equal(got, list) {
			t.Errorf("DecodeSubframe of BestSubframe(%v, %d) = %v, %d, %v", list, width, got, next, ok2)
		}
		if slices.Min(list) == slices.Max(list) {
			continue
		}
		for order := range min(impl.MaxFixed, len(list)) + 1 {
			if f, ok := impl.EncodeFixed(list, width, order); !ok || f.Count < b.Count {
				t.Errorf("BestSubframe(%v, %d) has %d bits, and with order %d it has %d", list, width, b.Count, order, f.Count)
			}
		}
	}
}

func TestP57NoSubframeIsMuchLongerThanTheSamples(t *testing.T) {
	r := rand.New(rand.NewSource(57))
	reached := 0
	for range 2000 {
		width := someWidth(r)
		list := someBlock(r, width)
		if r.Intn(2) == 0 {
			for i := range list {
				list[i] = r.Intn(1<<width) - 1<<(width-1)
			}
		}
		b, ok := impl.BestSubframe(list, width)
		most := 8 + slowWasted(list) + width*len(list)
		if !ok || b.Count > most {
			t.Errorf("BestSubframe(%v, %d) has %d bits instead of at most %d", list, width, b.Count, most)
		}
		if b.Count == most {
			reached++
		}
	}
	if reached < 100 {
		t.Errorf("only %d subframes are as long as they can be", reached)
	}
}

func TestP58SamplesFitIntoTheWidth(t *testing.T) {
	r := rand.New(rand.NewSource(58))
	kinds := []int{0, 1, 8, 9, 10, 11, 12, 33, 34, 40}
	read := 0
	for i := range 5000 {
		count, width := 1+r.Intn(8), someWidth(r)
		text := textOfNumber(kinds[i%len(kinds)], 7) + textOfBits(someBits(r, 300))
		if i%3 == 0 {
			text = textOfBits(someBits(r, 300))
		}
		list, _, ok := impl.DecodeSubframe(bitsOfText(text), 0, count, width)
		if !ok {
			continue
		}
		read++
		if len(list) != count || slices.Min(list) < -1<<(width-1) || slices.Max(list) >= 1<<(width-1) {
			t.Errorf("DecodeSubframe(%s, 0, %d, %d) = %v", text, count, width, list)
		}
		if b, ok := impl.BestSubframe(list, width); !ok || b.Count == 0 {
			t.Errorf("BestSubframe(%v, %d) fails", list, width)
		}
	}
	if read < 500 {
		t.Errorf("only %d subframes were read", read)
	}
}

func TestP136WastedBitsCostOneBit(t *testing.T) {
	r := rand.New(rand.NewSource(136))
	zero, others := 0, 0
	for i := range 1000 {
		width := min(someWidth(r), impl.MaxSampleWidth-1)
		list := someBlock(r, width)
		if i%20 == 0 {
			clear(list)
		}
		twice := []int{}
		for _, n := range list {
			twice = append(twice, 2*n)
		}
		for order := range min(impl.MaxFixed, len(list)) + 1 {
			a, ok := impl.EncodeFixed(list, width, order)
			b, ok2 := impl.EncodeFixed(twice, width+1, order)
			want := a.Count + 1
			if allZeros(list) {
				want = a.Count + order
				zero++
			} else {
				others++
			}
			if !ok || !ok2 || b.Count != want {
				t.Errorf("EncodeFixed(%v, %d, %d) has %d bits, and doubled it has %d", list, width, order, a.Count, b.Count)
			}
		}
	}
	if zero < 50 || others < 1000 {
		t.Errorf("%d lists were zeros, and %d not", zero, others)
	}
}

func TestP137ConstantsAreShort(t *testing.T) {
	r := rand.New(rand.NewSource(137))
	for width := impl.MinWidth; width <= impl.MaxSampleWidth; width++ {
		half := 1 << (width - 1)
		for _, n := range []int{0, 1, -1, 2, half - 1, -half, half / 2, r.Intn(half), -r.Intn(half)} {
			one, ok := impl.BestSubframe([]int{n}, width)
			for count := 2; count <= impl.MaxBlock; count++ {
				b, ok2 := impl.BestSubframe(slices.Repeat([]int{n}, count), width)
				if !ok || !ok2 || b.Count > one.Count {
					t.Errorf("BestSubframe of %d times %d has %d bits instead of %d", count, n, b.Count, one.Count)
				}
			}
		}
	}
}

func TestP157SubframesCanBeAnywhere(t *testing.T) {
	r := rand.New(rand.NewSource(157))
	for range 1000 {
		width := someWidth(r)
		list, before, behind := someBlock(r, width), someBits(r, r.Intn(40)), someBits(r, r.Intn(20))
		b, ok := impl.BestSubframe(list, width)
		all := bitsOfText(textOfBits(before) + textOfBits(b) + textOfBits(behind))
		got, next, ok2 := impl.DecodeSubframe(all, before.Count, len(list), width)
		if !ok || !ok2 || next != before.Count+b.Count || !slices.Equal(got, list) {
			t.Errorf("DecodeSubframe of BestSubframe(%v, %d) behind %d bits = %v, %d, %v", list, width, before.Count, got, next, ok2)
		}
	}
}
