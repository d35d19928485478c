package impl

import "errors"

// MaxBits is the largest number of bits.
const MaxBits = 16384

// MaxBytes is the largest number of bytes.
const MaxBytes = 2048

// MaxWidth is the largest width of a number.
const MaxWidth = 32

// Bits is a sequence of bits in bytes.
type Bits struct {
	Bytes []int
	Count int
}

// errBits is returned for bits that are not valid, or a place that they do not have.
var errBits = errors.New("invalid bits")

// errNumber is returned for a number, a width or a parameter that has no code.
var errNumber = errors.New("number without a code")

// errRoom is returned if there would be more than MaxBits bits.
var errRoom = errors.New("too many bits")

// errEnd is returned if the bits end too early.
var errEnd = errors.New("too few bits")

// bitWriter appends numbers to bits that nobody else has.
type bitWriter struct {
	bytes []int
	count int
}

// newWriter returns a writer behind a copy of valid bits.
func newWriter(b Bits) (*bitWriter, error) {
	if !validBits(b) {
		return nil, errBits
	}
	return &bitWriter{bytes: copyOf(b.Bytes), count: b.Count}, nil
}

// put appends a number in width bits, or nothing if it returns an error.
func (w *bitWriter) put(value int, width int) error {
	if width < 0 || width > MaxWidth || value < 0 || value>>width != 0 {
		return errNumber
	}
	if width > MaxBits-w.count {
		return errRoom
	}
	for i := width - 1; i >= 0; i-- {
		w.putBit(value >> i & 1)
	}
	return nil
}

// putBit appends a bit for which there is room.
func (w *bitWriter) putBit(bit int) {
	if w.count%8 == 0 {
		w.bytes = append(w.bytes, 0)
	}
	w.bytes[w.count/8] |= bit << (7 - w.count%8)
	w.count++
}

// bits returns what was written; the writer is not used any more after it.
func (w *bitWriter) bits() Bits {
	return Bits{Bytes: w.bytes, Count: w.count}
}

// bitReader reads numbers from a place of bits on.
type bitReader struct {
	bits Bits
	at   int
}

// newReader returns a reader at a place of valid bits, which may be their end.
func newReader(b Bits, at int) (*bitReader, error) {
	if !validBits(b) || at < 0 || at > b.Count {
		return nil, errBits
	}
	return &bitReader{bits: b, at: at}, nil
}

// get reads the number in the next width bits, or nothing if it returns an error.
func (r *bitReader) get(width int) (int, error) {
	if width < 0 || width > MaxWidth {
		return 0, errNumber
	}
	if width > r.bits.Count-r.at {
		return 0, errEnd
	}
	n := 0
	for range width {
		n = 2*n + r.bits.Bytes[r.at/8]>>(7-r.at%8)&1
		r.at++
	}
	return n, nil
}

// appendCode returns a copy of bits with what a function puts behind them.
func appendCode(b Bits, put func(w *bitWriter) error) (Bits, bool) {
	w, err := newWriter(b)
	if err != nil {
		return Bits{}, false
	}
	if err := put(w); err != nil {
		return Bits{}, false
	}
	return w.bits(), true
}

// readCode returns what a function gets at a place, and the place behind it.
func readCode[T any](b Bits, at int, get func(r *bitReader) (T, error)) (T, int, bool) {
	var none T
	r, err := newReader(b, at)
	if err != nil {
		return none, 0, false
	}
	code, err := get(r)
	if err != nil {
		return none, 0, false
	}
	return code, r.at, true
}

// validBits reports whether bits are valid.
func validBits(b Bits) bool {
	if b.Count < 0 || b.Count > MaxBits || len(b.Bytes) != (b.Count+7)/8 || !validBytes(b.Bytes) {
		return false
	}
	spare := 8*len(b.Bytes) - b.Count
	return spare == 0 || b.Bytes[len(b.Bytes)-1]&(1<<spare-1) == 0
}

// validBytes reports whether a list has at most MaxBytes bytes in 0..255.
func validBytes(list []int) bool {
	if len(list) > MaxBytes {
		return false
	}
	for _, n := range list {
		if n < 0 || n > 255 {
			return false
		}
	}
	return true
}

// copyOf returns a list with the same numbers and memory of its own.
func copyOf(list []int) []int {
	return append([]int(nil), list...)
}

// PutBits returns bits with a number appended.
func PutBits(b Bits, value int, width int) (Bits, bool) {
	return appendCode(b, func(w *bitWriter) error {
		return w.put(value, width)
	})
}

// GetBits returns the number at a place of bits.
func GetBits(b Bits, at int, width int) (int, bool) {
	n, _, ok := readCode(b, at, func(r *bitReader) (int, error) {
		return r.get(width)
	})
	return n, ok
}

// JoinBits returns bits followed by others.
func JoinBits(a Bits, b Bits) (Bits, bool) {
	if !validBits(b) {
		return Bits{}, false
	}
	return appendCode(a, func(w *bitWriter) error {
		return w.putAll(b)
	})
}

// putAll appends valid bits.
func (w *bitWriter) putAll(b Bits) error {
	for i, n := range b.Bytes {
		width := min(8, b.Count-8*i)
		if err := w.put(n>>(8-width), width); err != nil {
			return err
		}
	}
	return nil
}

// AlignBits returns bits that fill their last byte.
func AlignBits(b Bits) Bits {
	if !validBits(b) {
		return Bits{}
	}
	// The bits of the last byte that do not count are zeros already.
	return BitsOf(b.Bytes)
}

// BitsOf returns the bits of bytes.
func BitsOf(list []int) Bits {
	if !validBytes(list) {
		return Bits{}
	}
	return Bits{Bytes: copyOf(list), Count: 8 * len(list)}
}
