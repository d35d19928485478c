package impl

// MaxNumber is the largest number that can be encoded.
const MaxNumber = 2147483647

// numberForm describes the numbers of one size in bytes.
type numberForm struct {
	limit int // all numbers of the form are less
	first int // what is added to the highest bits in the first byte
}

// numberForms has the forms in ascending order of size; the first one has one byte.
var numberForms = [6]numberForm{
	{128, 0},
	{2048, 192},
	{65536, 224},
	{2097152, 240},
	{67108864, 248},
	{2147483648, 252},
}

// EncodeNumber returns the bytes of a number.
func EncodeNumber(n int) []int {
	if n < 0 || n > MaxNumber {
		return nil
	}
	rest := 0
	for n >= numberForms[rest].limit {
		rest++
	}
	list := []int{numberForms[rest].first + n>>(6*rest)}
	for i := rest - 1; i >= 0; i-- {
		list = append(list, 128+n>>(6*i)&63)
	}
	return list
}

// DecodeNumber returns the number at a place of bytes.
func DecodeNumber(list []int, at int) (int, int, bool) {
	if !validBytes(list) || at < 0 || at >= len(list) {
		return 0, 0, false
	}
	rest, ok := bytesBehind(list[at])
	if !ok || rest >= len(list)-at {
		return 0, 0, false
	}
	n := list[at] - numberForms[rest].first
	for _, c := range list[at+1 : at+1+rest] {
		if c < 128 || c > 191 {
			return 0, 0, false
		}
		n = n<<6 + c - 128
	}
	// A number of a shorter form has another encoding.
	if rest > 0 && n < numberForms[rest-1].limit {
		return 0, 0, false
	}
	return n, at + 1 + rest, true
}

// bytesBehind returns how many bytes follow the first byte of a number.
func bytesBehind(first int) (int, bool) {
	for rest, form := range numberForms {
		high := first - form.first
		if high >= 0 && high < form.limit>>(6*rest) {
			return rest, true
		}
	}
	return 0, false
}
