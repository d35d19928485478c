package impl

// Crc8 returns the check of bytes.
func Crc8(list []int) int {
	return checkOf(list, 8, 263)
}

// Crc16 returns the longer check of bytes.
func Crc16(list []int) int {
	return checkOf(list, 16, 98309)
}

// checkOf returns the check of bytes that has width bits, at least 8, and a divisor of one more.
func checkOf(list []int, width int, divisor int) int {
	if !validBytes(list) {
		return -1
	}
	steps := fourSteps(width, divisor)
	check := 0
	for _, n := range list {
		check ^= n << (width - 8)
		for range 2 {
			check = check<<4&(1<<width-1) ^ steps[check>>(width-4)]
		}
	}
	return check
}

// fourSteps returns what four doublings make of a check with only the four highest bits.
// A table of all eight steps of a byte would cost more than it saves for most lists.
func fourSteps(width int, divisor int) [16]int {
	var table [16]int
	for i := range table {
		n := i << (width - 4)
		for range 4 {
			n *= 2
			if n>>width == 1 {
				n ^= divisor
			}
		}
		table[i] = n
	}
	return table
}
