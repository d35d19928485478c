package tests

import (
	"math/rand"
	"slices"
	"testing"

	"loop.example/losslessaudio/impl"
)

// slowCost returns the cost of blocks that divide valid samples by its definition.
func slowCost(list []int, width int, blocks []int) int {
	cost := 0
	for _, size := range blocks {
		text, _ := slowSubframe(list[:size], width)
		cost += 64 + len(text)
		list = list[size:]
	}
	return cost
}

// division is blocks with their cost.
type division struct {
	blocks []int
	cost   int
}

// divisions returns all divisions of valid samples into blocks of some sizes, the lexicographically smallest one first.
func divisions(list []int, width int, sizes []int) []division {
	if len(list) == 0 {
		return []division{{}}
	}
	all := []division{}
	for _, size := range sizes {
		if size > len(list) {
			break
		}
		first := slowCost(list, width, []int{size})
		for _, rest := range divisions(list[size:], width, sizes) {
			all = append(all, division{blocks: append([]int{size}, rest.blocks...), cost: first + rest.cost})
		}
	}
	return all
}

// slowBlocks returns all divisions of valid samples with the lowest cost, the lexicographically smallest one first.
func slowBlocks(list []int, width int, sizes []int) []division {
	best := []division{}
	for _, d := range divisions(list, width, sizes) {
		if len(best) > 0 && d.cost < best[0].cost {
			best = nil
		}
		if len(best) == 0 || d.cost == best[0].cost {
			best = append(best, d)
		}
	}
	return best
}

// lowestCost returns the lowest cost of blocks of some sizes from the last sample on, -1 if they cannot add up.
func lowestCost(list []int, width int, sizes []int) int {
	costs := make([]int, len(list)+1)
	for at := len(list) - 1; at >= 0; at-- {
		costs[at] = -1
		for _, size := range sizes {
			if at+size > len(list) || costs[at+size] < 0 {
				continue
			}
			cost := costs[at+size] + slowCost(list[at:], width, []int{size})
			if costs[at] < 0 || cost < costs[at] {
				costs[at] = cost
			}
		}
	}
	return costs[0]
}

// somePieces returns samples of a width that are the same in every run, in pieces that are equal, noise, lines, or anything else.
func somePieces(r *rand.Rand, width int, count int) []int {
	half := 1 << (width - 1)
	list := []int{}
	for len(list) < count {
		piece := make([]int, 1+r.Intn(9))
		n, kind, step := r.Intn(2*half)-half, r.Intn(4), r.Intn(7)-3
		for i := range piece {
			switch kind {
			case 0, 1:
				piece[i] = n
			case 2:
				piece[i] = r.Intn(2*half) - half
			default:
				piece[i] = n + i*step
			}
		}
		list = append(list, inWidth(piece, width)...)
	}
	if r.Intn(4) == 0 {
		list = someLine(r, count, width)
	}
	return list[:count]
}

// someSizes returns valid sizes that are the same in every run, most of which are at most as great as some number.
func someSizes(r *rand.Rand, most int) []int {
	sizes := []int{}
	for range 1 + r.Intn(impl.MaxSizes) {
		size := 1 + r.Intn(most)
		if r.Intn(12) == 0 {
			size = 1 + r.Intn(impl.MaxBlock)
		}
		sizes = append(sizes, size)
	}
	slices.Sort(sizes)
	return slices.Compact(sizes)
}

// someDivision returns sizes of blocks that add up to a number and are the same in every run.
func someDivision(r *rand.Rand, total int) []int {
	blocks, most := []int{}, 1+r.Intn(total)
	for total > 0 {
		size := 1 + r.Intn(min(most, total))
		blocks, total = append(blocks, size), total-size
	}
	return blocks
}

// checkCost fails if the cost of blocks is not the wanted one.
func checkCost(t *testing.T, what string, list []int, width int, blocks []int, want int) {
	t.Helper()
	if got := impl.BlocksCost(list, width, blocks); got != want {
		t.Errorf("BlocksCost of %s, %v, %d, %v = %d instead of %d", what, list, width, blocks, got, want)
	}
}

// checkBest fails if the best blocks are not the wanted ones.
func checkBest(t *testing.T, what string, list []int, width int, sizes []int, want []int, cost int) {
	t.Helper()
	if got, n := impl.BestBlocks(list, width, sizes); n != cost || !slices.Equal(got, want) {
		t.Errorf("BestBlocks of %s, %v, %d, %v = %v, %d instead of %v, %d", what, list, width, sizes, got, n, want, cost)
	}
}

// checkNoBest fails if there are best blocks.
func checkNoBest(t *testing.T, what string, list []int, width int, sizes []int) {
	t.Helper()
	if got, n := impl.BestBlocks(list, width, sizes); n != -1 || len(got) > 0 {
		t.Errorf("BestBlocks of %s, %v, %d, %v = %v, %d", what, list, width, sizes, got, n)
	}
}

// ones returns count numbers that are 1.
func ones(count int) []int {
	return slices.Repeat([]int{1}, count)
}

func TestLimitsOfBlocks(t *testing.T) {
	if impl.MaxSizes != 4 || impl.MaxSplit != 24 || impl.BlockBits != 64 {
		t.Error("a limit is wrong")
	}
}

func TestBlocksCostExamples(t *testing.T) {
	fives, sevens := slices.Repeat([]int{5}, 8), slices.Repeat([]int{7}, 24)
	line := []int{0, 1, 2, 3, 4, 5, 6, 7}
	for _, c := range []struct {
		list   []int
		width  int
		blocks []int
		want   int
	}{
		// Equal samples of a block cost 8 bits and the width.
		{fives, 8, []int{8}, 80}, {fives, 8, []int{4, 4}, 160}, {fives, 8, []int{1, 7}, 160}, {fives, 8, []int{7, 1}, 160}, {fives, 8, []int{3, 4, 1}, 240}, {fives, 8, ones(8), 640},
		{[]int{0}, 4, []int{1}, 76}, {[]int{0, 0}, 4, []int{2}, 76}, {[]int{-8}, 4, []int{1}, 76}, {[]int{7}, 4, []int{1}, 76}, {[]int{4, 4}, 17, []int{2}, 89},
		{[]int{-65536}, 17, []int{1}, 89}, {[]int{65535}, 17, []int{1}, 89}, {sevens, 4, []int{24}, 76}, {sevens, 4, ones(24), 24 * 76}, {sevens, 4, []int{23, 1}, 152},
		// Different ones are stored as they are, or by a predictor.
		{[]int{1, 2}, 4, []int{2}, 80}, {[]int{1, 2}, 4, []int{1, 1}, 152}, {[]int{1, 2, 2}, 4, []int{1, 2}, 152}, {[]int{1, 2, 2}, 4, []int{2, 1}, 156}, {[]int{1, 2, 2}, 4, []int{3}, 84},
		{[]int{-65536, 65535}, 17, []int{2}, 106}, {[]int{-65536, 65535}, 17, []int{1, 1}, 178}, {[]int{-8, 7}, 4, []int{2}, 80},
		{line, 8, []int{8}, 99}, {line, 8, []int{1, 7}, 80 + 99}, {line, 8, ones(8), 640},
	} {
		checkCost(t, "an example", c.list, c.width, c.blocks, c.want)
		if want := slowCost(c.list, c.width, c.blocks); want != c.want {
			t.Errorf("the example %v, %d, %v should be %d", c.list, c.width, c.blocks, want)
		}
	}
}

func TestBlocksCostFollowsItsDefinition(t *testing.T) {
	r := rand.New(rand.NewSource(1))
	for range 400 {
		width := someWidth(r)
		list := somePieces(r, width, 1+r.Intn(impl.MaxSplit))
		if r.Intn(5) == 0 {
			list = somePieces(r, width, impl.MaxSplit)
		}
		blocks := someDivision(r, len(list))
		checkCost(t, "samples", list, width, blocks, slowCost(list, width, blocks))
		// One sample less, and one more.
		last := len(blocks) - 1
		blocks[last]++
		checkCost(t, "one sample less", list, width, blocks, -1)
		blocks[last] -= 2
		checkCost(t, "one sample more", list, width, blocks, -1)
		checkCost(t, "less blocks", list, width, blocks[:last], -1)
	}
}

func TestBlocksCostOfOtherSizes(t *testing.T) {
	eight := []int{1, 2, 3, 4, 5, 6, 7, 9}
	wrong := [][]int{
		nil, {}, {7}, {9}, {4, 3}, {4, 5}, {8, 1}, {1, 8}, ones(7), ones(9), {16}, {8, 8}, {64}, {8, 64}, {64, 8}, {65}, {8, 65}, {65, 8},
		{0}, {0, 8}, {8, 0}, {4, 0, 4}, {0, 0}, {-8}, {-1, 9}, {9, -1}, {8, -1}, {-1, 8}, {4, -1, 5}, {16, -8}, {72, -64}, {65, -57}, {8, 1, -1}, {4, 4, 0}, ones(1000), make([]int, 1000),
	}
	for _, n := range farNumbers {
		// Sums of these leave the range of an int, and some come back to 8.
		wrong = append(wrong, []int{n}, []int{n, 8}, []int{8, n}, []int{4, n, 4}, []int{n, -n, 8}, []int{n, n, n, n, 8}, []int{n, 8 - n}, []int{8 - n, n})
	}
	for _, blocks := range wrong {
		checkCost(t, "eight samples", eight, 8, blocks, -1)
		checkCost(t, "eight zeros", make([]int, 8), 17, blocks, -1)
	}
	long := make([]int, impl.MaxSplit)
	for _, blocks := range [][]int{nil, {23}, {25}, {64}, {65}, {24, 0}, {24, 1}, {24, 24}, {12, 11}, {12, 13}, ones(23), ones(25)} {
		checkCost(t, "24 samples", long, 4, blocks, -1)
	}
	for _, blocks := range [][]int{nil, {0}, {2}, {-1}, {1, 0}, {0, 1}, {1, 1}, {64}, {65}, {2, -1}} {
		checkCost(t, "one sample", []int{3}, 4, blocks, -1)
	}
}

func TestBlocksOfInvalidSamples(t *testing.T) {
	for width := impl.MinWidth; width <= impl.MaxSampleWidth; width++ {
		for name, list := range invalidBlocks(width) {
			for _, blocks := range [][]int{nil, {1}, {min(len(list), 64)}, ones(len(list)), {0}, {-1}} {
				checkCost(t, name, list, width, blocks, -1)
			}
			for _, sizes := range [][]int{nil, {1}, {1, 2, 3, 4}, {1, 64}, {max(1, min(len(list), 64))}} {
				checkNoBest(t, name, list, width, sizes)
			}
		}
		half := 1 << (width - 1)
		limits := []int{-half, half - 1, -half, half - 1}
		checkCost(t, "samples at the limits", limits, width, []int{1, 2, 1}, slowCost(limits, width, []int{1, 2, 1}))
		checkCost(t, "samples at the limits", limits, width-1, []int{1, 2, 1}, -1)
		checkBest(t, "samples at the limits", limits, width, []int{4}, []int{4}, slowCost(limits, width, []int{4}))
		checkNoBest(t, "samples at the limits", limits, width-1, []int{4})
	}
	for _, size := range []int{25, 26, 48, 64, 65} {
		list := make([]int, size)
		checkCost(t, "too many samples", list, 8, []int{min(size, 64)}, -1)
		checkCost(t, "too many samples", list, 8, ones(size), -1)
		checkCost(t, "too many samples", list, 8, []int{24, size - 24}, -1)
		checkCost(t, "too many samples", list, 8, []int{24}, -1)
		checkNoBest(t, "too many samples", list, 8, []int{1})
		checkNoBest(t, "too many samples", list, 8, []int{min(size, 64)})
	}
	for _, width := range invalidWidths {
		for _, list := range [][]int{{0}, {0, 0}, {1, 2}, make([]int, 24)} {
			checkCost(t, "an invalid width", list, width, []int{len(list)}, -1)
			checkNoBest(t, "an invalid width", list, width, []int{len(list)})
			checkNoBest(t, "an invalid width", list, width, []int{1})
		}
	}
}

func TestBestBlocksExamples(t *testing.T) {
	fives, sevens := slices.Repeat([]int{5}, 8), slices.Repeat([]int{7}, 24)
	// Both parts are equal samples, but the whole has no short predictor.
	steps := slices.Concat(slices.Repeat([]int{-62376}, 7), slices.Repeat([]int{20817}, 6))
	for _, c := range []struct {
		list  []int
		width int
		sizes []int
		want  []int
		cost  int
	}{
		{fives, 8, []int{2, 4, 8}, []int{8}, 80}, {fives, 8, []int{2, 4}, []int{4, 4}, 160}, {fives, 8, []int{2}, []int{2, 2, 2, 2}, 320}, {fives, 8, []int{1}, ones(8), 640},
		{fives, 8, []int{8, 9, 10, 64}, []int{8}, 80}, {fives, 8, []int{8, 64}, []int{8}, 80}, {fives, 8, []int{3, 5}, []int{3, 5}, 160}, {fives, 8, []int{3, 4}, []int{4, 4}, 160}, {fives, 8, []int{1, 3}, []int{1, 1, 3, 3}, 320},
		{[]int{3}, 4, []int{1}, []int{1}, 76}, {[]int{3}, 4, []int{1, 2, 3, 64}, []int{1}, 76}, {sevens, 17, []int{24}, []int{24}, 89}, {sevens, 17, []int{1, 24}, []int{24}, 89}, {sevens, 4, []int{1}, ones(24), 1824}, {sevens, 4, []int{11, 13}, []int{11, 13}, 152}, {sevens, 4, []int{1, 2, 3, 4}, []int{4, 4, 4, 4, 4, 4}, 456}, {sevens, 4, []int{5, 7, 11, 19}, []int{5, 19}, 152},
		{steps, 17, []int{6, 7, 13}, []int{7, 6}, 178}, {steps, 17, []int{6, 7}, []int{7, 6}, 178}, {steps, 17, []int{1, 6, 7, 64}, []int{7, 6}, 178}, {steps, 17, []int{3, 4, 6}, []int{3, 4, 6}, 267},
	} {
		checkBest(t, "an example", c.list, c.width, c.sizes, c.want, c.cost)
		if want := slowCost(c.list, c.width, c.want); want != c.cost {
			t.Errorf("the example %v, %d, %v should cost %d", c.list, c.width, c.sizes, want)
		}
	}
}

func TestBestBlocksOfTheSameCost(t *testing.T) {
	pieces := func(n int, count int, m int, more int) []int {
		return slices.Concat(slices.Repeat([]int{n}, count), slices.Repeat([]int{m}, more))
	}
	for _, c := range []struct {
		list  []int
		width int
		sizes []int
		want  []int
		same  [][]int
	}{
		{[]int{5, 5, 5}, 8, []int{1, 2}, []int{1, 2}, [][]int{{2, 1}}},
		{[]int{5, 5, 5, 5}, 8, []int{1, 3}, []int{1, 3}, [][]int{{3, 1}}},
		{make([]int, 6), 8, []int{1, 2, 3, 4}, []int{2, 4}, [][]int{{3, 3}, {4, 2}}},
		{make([]int, 24), 17, []int{10, 14}, []int{10, 14}, [][]int{{14, 10}}},
		// The first ones may be more blocks than others, or less.
		{pieces(17670, 6, -5048, 1), 17, []int{1, 4, 6, 7}, []int{6, 1}, [][]int{{7}}},
		{pieces(-62376, 5, -20818, 5), 17, []int{5, 6, 7, 10}, []int{5, 5}, [][]int{{10}}},
		{pieces(17180, 4, 6171, 6), 16, []int{3, 4, 7, 9}, []int{3, 7}, [][]int{{4, 3, 3}, {7, 3}}},
		{pieces(-7725, 8, 7180, 4), 14, []int{2, 5, 8, 10}, []int{2, 10}, [][]int{{8, 2, 2}, {10, 2}}},
		{pieces(8090, 4, 6677, 7), 17, []int{2, 7, 9}, []int{2, 2, 7}, [][]int{{2, 9}, {9, 2}}},
	} {
		cost := slowCost(c.list, c.width, c.want)
		checkBest(t, "samples", c.list, c.width, c.sizes, c.want, cost)
		checkCost(t, "samples", c.list, c.width, c.want, cost)
		for _, blocks := range c.same {
			checkCost(t, "samples", c.list, c.width, blocks, cost)
		}
		if all := slowBlocks(c.list, c.width, c.sizes); len(all) != 1+len(c.same) {
			t.Errorf("the same cost of %v, %d, %v have %v", c.list, c.width, c.sizes, all)
		}
	}
}

func TestBestBlocksFollowsItsDefinition(t *testing.T) {
	r := rand.New(rand.NewSource(2))
	none, several, mixed := 0, 0, 0
	for range 600 {
		width := someWidth(r)
		list := somePieces(r, width, 1+r.Intn(10))
		if r.Intn(5) == 0 {
			list = slices.Repeat(list[:1], len(list))
		}
		sizes := someSizes(r, len(list))
		all := slowBlocks(list, width, sizes)
		if len(all) == 0 {
			none++
			checkNoBest(t, "samples", list, width, sizes)
			continue
		}
		if len(all) > 1 {
			several++
		}
		if slices.Min(all[0].blocks) < slices.Max(all[0].blocks) {
			mixed++
		}
		checkBest(t, "samples", list, width, sizes, all[0].blocks, all[0].cost)
	}
	if none < 50 || several < 30 || mixed < 100 {
		t.Errorf("there are no blocks %d times, several of the same cost %d times, and different sizes %d times", none, several, mixed)
	}
}

func TestBestBlocksOfManySamples(t *testing.T) {
	r := rand.New(rand.NewSource(3))
	for i, sizes := range [][]int{{1}, {24}, {1, 2, 3, 4}, {1, 24}, {5, 7}, {2, 3, 5, 7}, {1, 2, 23, 24}, {6, 12, 18, 24}, {1, 64}, {23}, {25}, {25, 64}, {7, 14, 21}, {23, 24}, {1, 2, 3, 4}} {
		width := impl.MinWidth + i%14
		list := somePieces(r, width, impl.MaxSplit)
		want := lowestCost(list, width, sizes)
		blocks, cost := impl.BestBlocks(list, width, sizes)
		if cost != want {
			t.Errorf("BestBlocks(%v, %d, %v) = %v, %d instead of %d", list, width, sizes, blocks, cost, want)
		}
		checkCost(t, "24 samples", list, width, blocks, want)
	}
}

func TestBestBlocksOfInvalidSizes(t *testing.T) {
	wrong := [][]int{
		nil, {}, {0}, {-1}, {0, 8}, {-1, 8}, {-8, 8}, {65}, {8, 65}, {1, 65}, {1, 2, 65}, {8, 8}, {1, 1}, {1, 8, 8}, {4, 4, 8}, {8, 4}, {8, 1}, {1, 8, 4}, {4, 1, 8}, {2, 1}, {64, 8}, {1, 0}, {8, 0}, {8, -1},
		{1, 2, 4, 8, 16}, {1, 2, 3, 4, 5}, {4, 5, 6, 7, 8}, {8, 9, 10, 11, 12}, {1, 1, 1, 1}, {1, 1, 1, 1, 1}, {1, 2, 3, 3}, {1, 2, 4, 3}, make([]int, 4), ones(1000),
	}
	for _, n := range farNumbers {
		wrong = append(wrong, []int{n}, []int{n, 8}, []int{8, n}, []int{1, n}, []int{1, 2, n}, []int{1, n, 8}, []int{n, n})
	}
	for _, list := range [][]int{{1, 2, 3, 4, 5, 6, 7, 9}, make([]int, 8), make([]int, 24), {0}} {
		for _, sizes := range wrong {
			checkNoBest(t, "invalid sizes", list, 8, sizes)
		}
	}
	// Valid sizes that cannot add up to eight samples.
	for _, sizes := range [][]int{{3}, {5}, {7}, {9}, {64}, {3, 6}, {3, 7}, {5, 6, 7}, {6, 7, 9, 10}, {9, 10, 11, 64}, {5, 64}} {
		checkNoBest(t, "sizes that do not add up", []int{1, 2, 3, 4, 5, 6, 7, 9}, 8, sizes)
		checkNoBest(t, "sizes that do not add up", make([]int, 8), 17, sizes)
	}
	checkNoBest(t, "one sample", []int{5}, 8, []int{2})
	checkNoBest(t, "one sample", []int{5}, 8, []int{2, 3, 4, 64})
	checkNoBest(t, "24 samples", make([]int, 24), 8, []int{23})
	checkNoBest(t, "24 samples", make([]int, 24), 8, []int{13, 14, 23, 25})
}

func TestBlocksTouchNothing(t *testing.T) {
	list, was := roomy([]int{5, 5, 5, 1, 2, 9}), []int{5, 5, 5, 1, 2, 9}
	sizes, blocks := roomy([]int{1, 3, 5}), roomy([]int{3, 2, 1})
	if got := impl.BlocksCost(list, 8, blocks); got != slowCost(was, 8, []int{3, 2, 1}) {
		t.Errorf("BlocksCost(%v, 8, %v) = %d", list, blocks, got)
	}
	for range 2 {
		best, cost := impl.BestBlocks(list, 8, sizes)
		want := slowBlocks(was, 8, []int{1, 3, 5})[0]
		if cost != want.cost || !slices.Equal(best, want.blocks) {
			t.Errorf("BestBlocks(%v, 8, %v) = %v, %d instead of %v", list, sizes, best, cost, want)
		}
		checkUntouched(t, list, was, best)
		checkUntouched(t, sizes, []int{1, 3, 5}, nil)
		checkUntouched(t, blocks, []int{3, 2, 1}, nil)
	}
	// A block may be as long as the list of sizes.
	single := roomy([]int{6})
	best, _ := impl.BestBlocks(list, 8, single)
	checkUntouched(t, single, []int{6}, best)
}

func TestP98BlocksCostTheirBits(t *testing.T) {
	r := rand.New(rand.NewSource(98))
	for range 300 {
		width := someWidth(r)
		list := somePieces(r, width, 1+r.Intn(impl.MaxSplit))
		blocks := someDivision(r, len(list))
		want, at := 0, 0
		for _, size := range blocks {
			b, ok := impl.BestSubframe(list[at:at+size], width)
			if !ok {
				t.Fatalf("BestSubframe(%v, %d) fails", list[at:at+size], width)
			}
			want, at = want+impl.BlockBits+b.Count, at+size
		}
		checkCost(t, "samples", list, width, blocks, want)
	}
}

// someBest returns samples, their width and sizes that can add up, with the best blocks and their cost.
func someBest(t *testing.T, r *rand.Rand) ([]int, int, []int, []int, int) {
	t.Helper()
	for range 1000 {
		width := someWidth(r)
		list := somePieces(r, width, 1+r.Intn(impl.MaxSplit))
		sizes := someSizes(r, len(list))
		if blocks, cost := impl.BestBlocks(list, width, sizes); cost >= 0 {
			return list, width, sizes, blocks, cost
		}
	}
	t.Fatal("no sizes add up")
	return nil, 0, nil, nil, 0
}

func TestP99TheBestBlocksCostWhatIsTold(t *testing.T) {
	r := rand.New(rand.NewSource(99))
	for range 300 {
		list, width, sizes, blocks, cost := someBest(t, r)
		checkCost(t, "the best blocks", list, width, blocks, cost)
		for _, size := range blocks {
			if !slices.Contains(sizes, size) {
				t.Errorf("BestBlocks(%v, %d, %v) = %v", list, width, sizes, blocks)
			}
		}
	}
}

func TestP100NoBlocksOfOneSizeCostLess(t *testing.T) {
	r := rand.New(rand.NewSource(100))
	less, same := 0, 0
	for range 400 {
		list, width, sizes, _, cost := someBest(t, r)
		for _, size := range sizes {
			if len(list)%size > 0 {
				continue
			}
			one := impl.BlocksCost(list, width, slices.Repeat([]int{size}, len(list)/size))
			if one < cost {
				t.Errorf("blocks of %d of %v, %d cost %d, but the best ones of %v cost %d", size, list, width, one, sizes, cost)
			}
			if one == cost {
				same++
			} else {
				less++
			}
		}
	}
	if less < 100 || same < 100 {
		t.Errorf("the best blocks cost less %d times, and the same %d times", less, same)
	}
}

func TestP101MoreSizesAreNotWorse(t *testing.T) {
	r := rand.New(rand.NewSource(101))
	worse := 0
	for range 400 {
		list, width, sizes, _, cost := someBest(t, r)
		for i := range sizes {
			if len(sizes) == 1 {
				continue
			}
			_, other := impl.BestBlocks(list, width, slices.Delete(slices.Clone(sizes), i, i+1))
			if other >= 0 && other < cost {
				t.Errorf("the blocks of %v, %d, %v cost %d, but without size %d they cost %d", list, width, sizes, cost, sizes[i], other)
			}
			if other > cost {
				worse++
			}
		}
	}
	if worse < 100 {
		t.Errorf("only %d sizes made blocks better", worse)
	}
}

func TestP102BestBlocksAreBestAtEveryPlace(t *testing.T) {
	r := rand.New(rand.NewSource(102))
	for range 300 {
		list, width, sizes, blocks, cost := someBest(t, r)
		for len(blocks) > 1 {
			cost -= impl.BlocksCost(list[:blocks[0]], width, blocks[:1])
			list, blocks = list[blocks[0]:], blocks[1:]
			checkBest(t, "the other samples", list, width, sizes, blocks, cost)
		}
	}
}

func TestP150CostsAddUp(t *testing.T) {
	r := rand.New(rand.NewSource(150))
	for range 300 {
		width := someWidth(r)
		list := somePieces(r, width, 1+r.Intn(impl.MaxSplit))
		blocks := someDivision(r, len(list))
		for len(blocks) > 1 {
			first := impl.BlocksCost(list[:blocks[0]], width, blocks[:1])
			others := impl.BlocksCost(list[blocks[0]:], width, blocks[1:])
			if first < 0 || others < 0 {
				t.Errorf("BlocksCost(%v, %d, %v) is %d and %d", list, width, blocks, first, others)
			}
			checkCost(t, "all samples", list, width, blocks, first+others)
			list, blocks = list[blocks[0]:], blocks[1:]
		}
	}
}
