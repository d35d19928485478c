package impl

// MaxResidual is the largest absolute value of a signed number.
const MaxResidual = 4194303

// MaxUnary is the largest number in unary form.
const MaxUnary = 500

// MaxRice is the largest parameter of a Rice code.
const MaxRice = 14

// Zigzag returns the number of a signed number.
func Zigzag(n int) int {
	if n < -MaxResidual || n > MaxResidual {
		return -1
	}
	if n < 0 {
		return -2*n - 1
	}
	return 2 * n
}

// Unzigzag returns the signed number of a number.
func Unzigzag(n int) (int, bool) {
	if n < 0 || n > 2*MaxResidual {
		return 0, false
	}
	if n%2 == 1 {
		return -(n + 1) / 2, true
	}
	return n / 2, true
}

// PutUnary returns bits with a number in unary form appended.
func PutUnary(b Bits, n int) (Bits, bool) {
	return appendCode(b, func(w *bitWriter) error {
		return w.putUnary(n)
	})
}

// putUnary appends a number in unary form.
func (w *bitWriter) putUnary(n int) error {
	if n < 0 || n > MaxUnary {
		return errNumber
	}
	if n+1 > MaxBits-w.count {
		return errRoom
	}
	for range n {
		w.putBit(0)
	}
	w.putBit(1)
	return nil
}

// GetUnary returns the number in unary form at a place.
func GetUnary(b Bits, at int) (int, int, bool) {
	return readCode(b, at, (*bitReader).getUnary)
}

// getUnary reads a number in unary form.
func (r *bitReader) getUnary() (int, error) {
	for n := range MaxUnary + 1 {
		bit, err := r.get(1)
		if err != nil {
			return 0, err
		}
		if bit == 1 {
			return n, nil
		}
	}
	return 0, errNumber
}

// RiceLength returns the number of bits of a Rice code.
func RiceLength(n int, k int) int {
	z := Zigzag(n)
	if z < 0 || k < 0 || k > MaxRice || z>>k > MaxUnary {
		return -1
	}
	return z>>k + 1 + k
}

// PutRice returns bits with a Rice code appended.
func PutRice(b Bits, n int, k int) (Bits, bool) {
	return appendCode(b, func(w *bitWriter) error {
		return w.putRice(n, k)
	})
}

// putRice appends the Rice code of a signed number.
func (w *bitWriter) putRice(n int, k int) error {
	if RiceLength(n, k) < 0 {
		return errNumber
	}
	z := Zigzag(n)
	if err := w.putUnary(z >> k); err != nil {
		return err
	}
	return w.put(z&(1<<k-1), k)
}

// GetRice returns the signed number of a Rice code at a place.
func GetRice(b Bits, at int, k int) (int, int, bool) {
	return readCode(b, at, func(r *bitReader) (int, error) {
		return r.getRice(k)
	})
}

// getRice reads the Rice code of a signed number.
func (r *bitReader) getRice(k int) (int, error) {
	if k < 0 || k > MaxRice {
		return 0, errNumber
	}
	high, err := r.getUnary()
	if err != nil {
		return 0, err
	}
	low, err := r.get(k)
	if err != nil {
		return 0, err
	}
	// Even with MaxUnary and MaxRice the sum is less than 2*MaxResidual.
	n, _ := Unzigzag(high<<k + low)
	return n, nil
}
