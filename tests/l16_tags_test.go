package tests

import (
	"maps"
	"math/rand"
	"regexp"
	"slices"
	"strings"
	"testing"

	"loop.example/losslessaudio/impl"
)

// tagText is the form of the text of a valid tag.
var tagText = regexp.MustCompile(`^([A-Z]{1,12})=([ -~]{0,40})$`)

// isKey reports whether a tag may have a key.
func isKey(key string) bool {
	return !strings.Contains(key, "=") && tagText.MatchString(key+"=")
}

// isValue reports whether a tag may have a value.
func isValue(value string) bool {
	return tagText.MatchString("K=" + value)
}

// areTags reports whether tags are valid by their definition.
func areTags(list []impl.Tag) bool {
	return len(list) <= 10 && !slices.ContainsFunc(list, func(tag impl.Tag) bool { return !isKey(tag.Key) || !isValue(tag.Value) })
}

// slowTags returns the bytes of tags by their definition, whether they are valid or not.
func slowTags(list []impl.Tag) []int {
	bytes := []int{len(list)}
	for _, tag := range list {
		bytes = append(bytes, len(tag.Key)+1+len(tag.Value))
		bytes = append(bytes, bytesOfText(tag.Key+"="+tag.Value)...)
	}
	return bytes
}

// bytesOfText returns the bytes of a text.
func bytesOfText(text string) []int {
	bytes := []int{}
	for _, c := range []byte(text) {
		bytes = append(bytes, int(c))
	}
	return bytes
}

// storedTexts returns a number and texts behind their lengths.
func storedTexts(count int, texts ...string) []int {
	bytes := []int{count}
	for _, text := range texts {
		bytes = append(append(bytes, len(text)), bytesOfText(text)...)
	}
	return bytes
}

// slowReadTags returns the tags at a place by taking one part of the bytes after the other.
func slowReadTags(list []int, at int) ([]impl.Tag, int, bool) {
	if len(list) > 2048 || at < 0 || at >= len(list) || slices.Min(list) < 0 || slices.Max(list) > 255 || list[at] > 10 {
		return nil, 0, false
	}
	tags, rest := []impl.Tag{}, list[at+1:]
	for len(tags) < list[at] {
		if len(rest) == 0 || len(rest[1:]) < rest[0] {
			return nil, 0, false
		}
		text := ""
		for _, n := range rest[1 : rest[0]+1] {
			text += string([]byte{byte(n)})
		}
		parts := tagText.FindStringSubmatch(text)
		if parts == nil {
			return nil, 0, false
		}
		tags, rest = append(tags, impl.Tag{Key: parts[1], Value: parts[2]}), rest[rest[0]+1:]
	}
	return tags, len(list) - len(rest), true
}

// slowSet returns tags with a key set by its definition.
func slowSet(list []impl.Tag, key string, value string) ([]impl.Tag, bool) {
	out, found := []impl.Tag{}, false
	for _, tag := range list {
		if tag.Key != key {
			out = append(out, tag)
		} else if !found {
			out, found = append(out, impl.Tag{Key: key, Value: value}), true
		}
	}
	if !found {
		out = append(out, impl.Tag{Key: key, Value: value})
	}
	if !areTags(list) || !areTags(out) {
		return nil, false
	}
	return out, true
}

// slowValue returns the value of a key by looking at all tags.
func slowValue(list []impl.Tag, key string) (string, bool) {
	for _, tag := range list {
		if tag.Key == key {
			return tag.Value, true
		}
	}
	return "", false
}

// someKey returns a key that is the same in every run, often one of few.
func someKey(r *rand.Rand) string {
	if r.Intn(3) > 0 {
		return []string{"A", "B", "AB", "BA", "TITLE", "TITLES", "ABCDEFGHIJKL", "ABCDEFGHIJKM"}[r.Intn(8)]
	}
	key := make([]byte, 1+r.Intn(impl.MaxKey))
	for i := range key {
		key[i] = 'A' + byte(r.Intn(26))
	}
	return string(key)
}

// someValue returns a value that is the same in every run, often with equals signs or what looks like a tag.
func someValue(r *rand.Rand) string {
	value := make([]byte, r.Intn(1+r.Intn(impl.MaxValue+1)))
	if r.Intn(8) == 0 {
		value = make([]byte, impl.MaxValue)
	}
	few := r.Intn(2) == 0
	for i := range value {
		value[i] = ' ' + byte(r.Intn(95))
		if few {
			value[i] = "=AB ~"[r.Intn(5)]
		}
	}
	return string(value)
}

// someTagsUpTo returns valid tags that are the same in every run, often with a key several times.
func someTagsUpTo(r *rand.Rand, most int) []impl.Tag {
	list := []impl.Tag{}
	for range r.Intn(most + 1) {
		list = append(list, impl.Tag{Key: someKey(r), Value: someValue(r)})
	}
	return list
}

// tagsOf returns tags of keys and values in turn.
func tagsOf(texts ...string) []impl.Tag {
	list := []impl.Tag{}
	for i := 0; i < len(texts); i += 2 {
		list = append(list, impl.Tag{Key: texts[i], Value: texts[i+1]})
	}
	return list
}

// tenTags are as many tags with different keys as there may be.
func tenTags() []impl.Tag {
	return tagsOf("A", "1", "B", "2", "C", "3", "D", "4", "E", "5", "F", "6", "G", "7", "H", "8", "I", "9", "J", "10")
}

// longTags are as many tags as there may be, with the longest keys and values.
func longTags() []impl.Tag {
	return slices.Repeat(tagsOf("ABCDEFGHIJKZ", strings.Repeat("~", 40)), 10)
}

// invalidTexts are keys that no tag has, and values that no tag has.
func invalidTexts() ([]string, []string) {
	keys := []string{"", "ABCDEFGHIJKLM", strings.Repeat("A", 300), "a", "Ab", "aB", "A1", "1", " ", "A ", " A", "A=", "=", "=A", "A=B", "@", "[", "A@", "[A", "AZ[", "\x00", "A\n", "\nA", "Ä", "A\xff", "\xc1", "A-B", "A_B"}
	values := []string{strings.Repeat("a", 41), strings.Repeat(" ", 300), "\x1f", "\x7f", "a\x7f", "\x1fa", "a\nb", "\n", "\t", "\x00", "ä", "a\x80", "\xff", strings.Repeat("ä", 20), strings.Repeat("~", 39) + "\x7f"}
	return keys, values
}

// invalidTags are all kinds of tags that are not valid.
func invalidTags() map[string][]impl.Tag {
	all := map[string][]impl.Tag{
		"the zero value":        make([]impl.Tag, 1),
		"many zero values":      make([]impl.Tag, 10),
		"eleven tags":           append(tenTags(), impl.Tag{Key: "K"}),
		"eleven times the same": slices.Repeat(tagsOf("A", "1"), 11),
		"many tags":             slices.Repeat(tagsOf("A", "1"), 1000),
		"256 tags":              slices.Repeat(tagsOf("A", "1"), 256),
	}
	keys, values := invalidTexts()
	for _, key := range keys {
		all["the key "+key] = tagsOf(key, "1")
		all["the second key "+key] = tagsOf("A", "1", key, "")
		all["the first key "+key] = tagsOf(key, "", "A", "1")
		all["the last key "+key] = append(tenTags()[:9], impl.Tag{Key: key})
	}
	for _, value := range values {
		all["the value "+value] = tagsOf("A", value)
		all["the second value "+value] = tagsOf("A", "1", "B", value)
		all["the first value "+value] = tagsOf("B", value, "A", "1")
		all["the last value "+value] = append(tenTags()[:9], impl.Tag{Key: "J", Value: value})
	}
	return all
}

// checkTags fails if tags at a place are not the wanted ones, or do not have their bytes.
func checkTags(t *testing.T, what string, list []int, at int, want []impl.Tag, end int) {
	t.Helper()
	if got, next, ok := impl.DecodeTags(list, at); !ok || next != end || !slices.Equal(got, want) {
		t.Errorf("DecodeTags of %s, %v, %d, = %q, %d, %v instead of %q, %d", what, list, at, got, next, ok, want, end)
	}
	if got := impl.EncodeTags(want); !slices.Equal(got, list[at:end]) {
		t.Errorf("EncodeTags of %s, %q, = %v instead of %v", what, want, got, list[at:end])
	}
}

// checkNoTags fails if there are tags at a place.
func checkNoTags(t *testing.T, what string, list []int, at int) {
	t.Helper()
	if got, next, ok := impl.DecodeTags(list, at); ok || next != 0 || len(got) > 0 {
		t.Errorf("DecodeTags of %s, %v, %d, = %q, %d, %v", what, list, at, got, next, ok)
	}
}

// checkSet fails if tags with a key set are not the wanted ones.
func checkSet(t *testing.T, list []impl.Tag, key string, value string, want []impl.Tag) {
	t.Helper()
	if got, ok := impl.SetTag(list, key, value); !ok || !slices.Equal(got, want) {
		t.Errorf("SetTag(%q, %q, %q) = %q, %v instead of %q", list, key, value, got, ok, want)
	}
}

// checkNoSet fails if a key can be set.
func checkNoSet(t *testing.T, what string, list []impl.Tag, key string, value string) {
	t.Helper()
	if got, ok := impl.SetTag(list, key, value); ok || len(got) > 0 {
		t.Errorf("SetTag of %s, %q, %q, %q = %q, %v", what, list, key, value, got, ok)
	}
}

// checkValue fails if the value of a key is not the wanted one.
func checkValue(t *testing.T, list []impl.Tag, key string, want string, found bool) {
	t.Helper()
	if got, ok := impl.TagOf(list, key); ok != found || got != want {
		t.Errorf("TagOf(%q, %q) = %q, %v instead of %q, %v", list, key, got, ok, want, found)
	}
}

// checkPad fails if tags with zeros do not have the size.
func checkPad(t *testing.T, list []impl.Tag, size int) {
	t.Helper()
	form := slowTags(list)
	want := append(form, make([]int, size-len(form))...)
	if got, ok := impl.PadTags(list, size); !ok || !slices.Equal(got, want) {
		t.Errorf("PadTags(%q, %d) = %v, %v instead of %v", list, size, got, ok, want)
	}
}

// checkNoPad fails if tags can be brought to a size.
func checkNoPad(t *testing.T, what string, list []impl.Tag, size int) {
	t.Helper()
	if got, ok := impl.PadTags(list, size); ok || len(got) > 0 {
		t.Errorf("PadTags of %s, %q, %d = %v, %v", what, list, size, got, ok)
	}
}

func TestLimitsOfTags(t *testing.T) {
	if impl.MaxKey != 12 || impl.MaxValue != 40 || impl.MaxTags != 10 {
		t.Error("a limit is wrong")
	}
}

func TestEncodeTagsExamples(t *testing.T) {
	for _, c := range []struct {
		tags []impl.Tag
		want []int
	}{
		{nil, []int{0}},
		{[]impl.Tag{}, []int{0}},
		{tagsOf("A", ""), []int{1, 2, 65, 61}},
		{tagsOf("Z", " "), []int{1, 3, 90, 61, 32}},
		{tagsOf("AZ", "~a"), []int{1, 5, 65, 90, 61, 126, 97}},
		{tagsOf("B", "x=y"), []int{1, 5, 66, 61, 120, 61, 121}},
		{tagsOf("B", "="), []int{1, 3, 66, 61, 61}},
		{tagsOf("B", "A="), []int{1, 4, 66, 61, 65, 61}},
		{tagsOf("B", "1", "A", "", "B", "2"), []int{3, 3, 66, 61, 49, 2, 65, 61, 3, 66, 61, 50}},
		{tagsOf("A", "1", "A", "1"), []int{2, 3, 65, 61, 49, 3, 65, 61, 49}},
		{tenTags(), storedTexts(10, "A=1", "B=2", "C=3", "D=4", "E=5", "F=6", "G=7", "H=8", "I=9", "J=10")},
		{tagsOf("ABCDEFGHIJKL", ""), storedTexts(1, "ABCDEFGHIJKL=")},
		{tagsOf("A", strings.Repeat(" ", 40)), storedTexts(1, "A="+strings.Repeat(" ", 40))},
		{longTags(), storedTexts(10, slices.Repeat([]string{"ABCDEFGHIJKZ=" + strings.Repeat("~", 40)}, 10)...)},
	} {
		checkTags(t, "an example", c.want, 0, c.tags, len(c.want))
		checkTags(t, "an example behind another one", slices.Concat(c.want, c.want, c.want), len(c.want), c.tags, 2*len(c.want))
	}
}

func TestTagsWithAnyByte(t *testing.T) {
	for n := range 256 {
		c := string([]byte{byte(n)})
		for _, list := range [][]impl.Tag{
			tagsOf(c, ""), tagsOf("A"+c, "1"), tagsOf(c+"A", "1"), tagsOf("A"+c+"Z", ""), tagsOf("ABCDEFGHIJK"+c, ""),
			tagsOf("A", c), tagsOf("A", c+"1"), tagsOf("A", "1"+c), tagsOf("A", "1"+c+"2"), tagsOf("A", strings.Repeat(c, 40)), tagsOf("A", "1", "B", "2", "C", c),
		} {
			bytes := slowTags(list)
			if got := impl.EncodeTags(list); areTags(list) && !slices.Equal(got, bytes) || !areTags(list) && len(got) > 0 {
				t.Errorf("EncodeTags(%q) = %v", list, got)
			}
			// With an equals sign in the key there may be other tags.
			if want, end, ok := slowReadTags(bytes, 0); ok {
				checkTags(t, "a byte", bytes, 0, want, end)
			} else {
				checkNoTags(t, "a byte", bytes, 0)
			}
		}
	}
}

func TestEncodeTagsOfInvalidTags(t *testing.T) {
	for name, list := range invalidTags() {
		if got := impl.EncodeTags(list); len(got) > 0 {
			t.Errorf("EncodeTags of %s = %v", name, got)
		}
		bytes := slowTags(list)
		if _, _, ok := slowReadTags(bytes, 0); !ok && len(bytes) <= impl.MaxBytes {
			checkNoTags(t, name, bytes, 0)
		}
	}
}

func TestEncodeTagsFollowsItsDefinition(t *testing.T) {
	r := rand.New(rand.NewSource(1))
	for range 500 {
		list := someTagsUpTo(r, 10)
		bytes := slowTags(list)
		checkTags(t, "tags", bytes, 0, list, len(bytes))
	}
}

func TestDecodeTagsOfWrongNumbers(t *testing.T) {
	for name, bad := range map[string][]int{
		"one tag less than told":               {2, 3, 65, 61, 49},
		"no tag of one":                        {1},
		"no tag of 255":                        {255},
		"one byte less than told":              {1, 4, 65, 61, 49},
		"only a length":                        {1, 2},
		"only a length of 0":                   {1, 0},
		"a length without an equals sign":      {1, 1, 65, 61, 49},
		"a text of no bytes":                   {1, 0, 65, 61},
		"a last text of no bytes":              {2, 2, 65, 61, 0},
		"a length that takes the next tag":     {2, 5, 65, 61, 3, 66, 61, 49},
		"a length of 255":                      {1, 255, 65, 61, 49},
		"a length that is not in the list":     {2, 2, 65, 61},
		"a text without an equals sign":        storedTexts(1, "A"),
		"a long text without an equals sign":   storedTexts(1, "ABCDEFGHIJKL"),
		"a second one without an equals sign":  storedTexts(2, "A=", "B"),
		"a value without a key":                storedTexts(1, "=A"),
		"only an equals sign":                  storedTexts(1, "="),
		"two equals signs":                     storedTexts(1, "=="),
		"a key of 13 letters":                  storedTexts(1, "ABCDEFGHIJKLM="),
		"a value of 41 bytes":                  storedTexts(1, "A="+strings.Repeat("=", 41)),
		"a small letter":                       storedTexts(1, "a="),
		"a space before the equals sign":       storedTexts(1, "A =1"),
		"a byte before the space":              storedTexts(1, "A=\x1f"),
		"a byte behind the tilde":              storedTexts(1, "A=\x7f"),
		"a byte of 255":                        storedTexts(1, "A=\xff"),
		"eleven tags":                          storedTexts(11, slices.Repeat([]string{"A=1"}, 11)...),
		"eleven told tags of ten":              storedTexts(11, slices.Repeat([]string{"A=1"}, 10)...),
		"many tags":                            storedTexts(255, slices.Repeat([]string{"A=1"}, 255)...),
		"a number of 256":                      storedTexts(256, slices.Repeat([]string{"A=1"}, 256)...),
		"a number of 11 without any tags":      {11, 0, 0, 0, 0, 0, 0, 0, 0, 0, 0, 0},
		"a negative number":                    {-1},
		"a negative length":                    {1, -1},
		"a length of 256":                      append([]int{1, 256}, bytesOfText("A="+strings.Repeat("1", 254))...),
		"a byte that is too great in the text": {1, 3, 65, 61, 256 + 49},
		"a letter that is too great":           {1, 3, 256 + 65, 61, 49},
		"a byte that is negative in the text":  {1, 3, 65, 61, 49 - 256},
	} {
		checkNoTags(t, name, bad, 0)
		if slices.Max(bad) < 256 && slices.Min(bad) >= 0 && name != "a text of no bytes" {
			checkNoTags(t, name+" behind tags", append([]int{0, 1, 2, 65, 61}, bad...), 5)
		}
	}
	checkTags(t, "tags that take less", []int{1, 3, 65, 61, 49, 3, 66, 61, 49}, 0, tagsOf("A", "1"), 5)
	checkTags(t, "tags that take less", []int{0, 3, 65, 61, 49}, 0, nil, 1)
	checkTags(t, "the last byte", []int{7, 7, 0}, 2, nil, 3)
}

func TestDecodeTagsOfInvalidArguments(t *testing.T) {
	list := slowTags(tagsOf("A", "1", "TITLE", "a = b"))
	for _, at := range append([]int{-1, -len(list), len(list), len(list) + 1, impl.MaxBytes}, farNumbers...) {
		checkNoTags(t, "tags", list, at)
		checkNoTags(t, "no bytes", nil, at)
	}
	checkNoTags(t, "no bytes", nil, 0)
	for i := range list {
		for _, n := range append([]int{list[i] + 256, list[i] - 256, -1, 256}, farNumbers...) {
			bad := slices.Clone(list)
			bad[i] = n
			checkNoTags(t, "a number that is no byte", bad, 0)
		}
	}
	for name, bad := range invalidBytes() {
		for _, at := range []int{0, 1, len(list), len(bad) - 1} {
			checkNoTags(t, name, bad, at)
			checkNoTags(t, name+" behind tags", slices.Concat(list, bad), at)
		}
		checkNoTags(t, name+" before tags", slices.Concat(bad, list), len(bad))
	}
	for size := range list {
		checkNoTags(t, "a part of tags", list[:size], 0)
	}
}

func TestDecodeTagsUpToMaxBytes(t *testing.T) {
	r := rand.New(rand.NewSource(2))
	for _, tags := range [][]impl.Tag{nil, tagsOf("A", ""), tenTags(), longTags()} {
		form := slowTags(tags)
		before := someBytes(r, impl.MaxBytes-len(form))
		list := slices.Concat(before, form)
		checkTags(t, "2048 bytes", list, len(before), tags, impl.MaxBytes)
		list = slices.Concat(form, before)
		checkTags(t, "2048 bytes", list, 0, tags, len(form))
		checkNoTags(t, "2049 bytes", append(list, 0), 0)
		checkNoTags(t, "2049 bytes", slices.Concat([]int{0}, before, form), 1+len(before))
		checkNoTags(t, "2048 bytes", list[:impl.MaxBytes], impl.MaxBytes)
	}
}

func TestDecodeTagsFollowsItsDefinition(t *testing.T) {
	r := rand.New(rand.NewSource(3))
	read, not := 0, 0
	for range 4000 {
		list := slices.Concat(someBytes(r, r.Intn(5)), slowTags(someTagsUpTo(r, 4)), someBytes(r, r.Intn(5)))
		for range r.Intn(4) {
			i := r.Intn(len(list))
			switch r.Intn(5) {
			case 0:
				list[i] = r.Intn(256)
			case 1:
				list[i] = r.Intn(12)
			case 2:
				list[i] = max(0, list[i]+r.Intn(3)-1)
			case 3:
				list[i] = '='
			default:
				list = slices.Insert(list, i, r.Intn(128))
			}
		}
		for at := range list {
			want, end, ok := slowReadTags(list, at)
			if !ok {
				not++
				checkNoTags(t, "some bytes", list, at)
				continue
			}
			if len(want) > 0 {
				read++
			}
			checkTags(t, "some bytes", list, at, want, end)
		}
	}
	if read < 1000 || not < 10000 {
		t.Errorf("tags are read %d times, and not %d times", read, not)
	}
}

func TestSetTagExamples(t *testing.T) {
	three := tagsOf("A", "1", "B", "2", "A", "3")
	checkSet(t, nil, "A", "", tagsOf("A", ""))
	checkSet(t, []impl.Tag{}, "ABCDEFGHIJKL", strings.Repeat("~", 40), tagsOf("ABCDEFGHIJKL", strings.Repeat("~", 40)))
	checkSet(t, three, "A", "9", tagsOf("A", "9", "B", "2"))
	checkSet(t, three, "A", "3", tagsOf("A", "3", "B", "2"))
	checkSet(t, three, "A", "1", tagsOf("A", "1", "B", "2"))
	checkSet(t, three, "A", "", tagsOf("A", "", "B", "2"))
	checkSet(t, three, "B", "A=1", tagsOf("A", "1", "B", "A=1", "A", "3"))
	checkSet(t, three, "AB", "4", append(slices.Clone(three), impl.Tag{Key: "AB", Value: "4"}))
	checkSet(t, tagsOf("B", "1", "A", "1", "A", "2", "A", "3"), "A", "4", tagsOf("B", "1", "A", "4"))
	checkSet(t, tagsOf("A", "1", "A", "2", "A", "3", "B", "1"), "A", "4", tagsOf("A", "4", "B", "1"))
	checkSet(t, tagsOf("A", "1", "B", "1", "A", "2", "C", "1", "A", "3", "D", "1"), "A", "4", tagsOf("A", "4", "B", "1", "C", "1", "D", "1"))
	// Other keys may still stand several times.
	checkSet(t, tagsOf("B", "1", "A", "1", "B", "2"), "A", "4", tagsOf("B", "1", "A", "4", "B", "2"))
	checkSet(t, tagsOf("B", "1", "B", "2"), "A", "4", tagsOf("B", "1", "B", "2", "A", "4"))
	checkSet(t, slices.Repeat(tagsOf("A", "1"), 10), "A", "2", tagsOf("A", "2"))
}

func TestSetTagOfTenTags(t *testing.T) {
	ten := tenTags()
	for i, tag := range ten {
		want := slices.Clone(ten)
		want[i].Value = "new"
		checkSet(t, ten, tag.Key, "new", want)
	}
	checkNoSet(t, "ten tags", ten, "K", "new")
	checkNoSet(t, "ten tags", ten, "AA", "")
	checkNoSet(t, "ten equal tags", slices.Repeat(tagsOf("A", "1"), 10), "B", "1")
	checkSet(t, ten[:9], "K", "new", append(tenTags()[:9], impl.Tag{Key: "K", Value: "new"}))
	checkSet(t, ten[1:], "A", "1", append(tenTags()[1:], impl.Tag{Key: "A", Value: "1"}))
	// The tags must be valid even if fewer would be left.
	checkNoSet(t, "eleven tags", slices.Repeat(tagsOf("A", "1"), 11), "A", "1")
	checkNoSet(t, "eleven tags", append(tenTags(), impl.Tag{Key: "A", Value: "2"}), "A", "3")
}

func TestSetTagOfInvalidArguments(t *testing.T) {
	keys, values := invalidTexts()
	for _, list := range [][]impl.Tag{nil, tagsOf("A", "1"), tagsOf("A", "1", "A", "2"), tenTags()} {
		for _, key := range keys {
			checkNoSet(t, "valid tags", list, key, "1")
			checkNoSet(t, "valid tags", list, key, values[0])
		}
		for _, value := range values {
			checkNoSet(t, "valid tags", list, "A", value)
		}
	}
	for name, list := range invalidTags() {
		checkNoSet(t, name, list, "A", "1")
		checkNoSet(t, name, list, "ZZ", "")
		for _, tag := range list[:min(2, len(list))] {
			// Even where the wrong tag would be replaced.
			checkNoSet(t, name, list, tag.Key, "1")
		}
	}
}

func TestSetTagFollowsItsDefinition(t *testing.T) {
	r := rand.New(rand.NewSource(4))
	set, not, shorter := 0, 0, 0
	for range 3000 {
		list, key, value := someTagsUpTo(r, 10), someKey(r), someValue(r)
		want, ok := slowSet(list, key, value)
		if !ok {
			not++
			checkNoSet(t, "tags", list, key, value)
			continue
		}
		set++
		if len(want) < len(list) {
			shorter++
		}
		checkSet(t, list, key, value, want)
	}
	if set < 2000 || not < 50 || shorter < 100 {
		t.Errorf("%d tags are set, %d are not, and %d are left out", set, not, shorter)
	}
}

func TestTagOfExamples(t *testing.T) {
	list := tagsOf("A", "1", "B", "", "A", "3", "AB", "A=4", "B", "5", "ABCDEFGHIJKL", strings.Repeat("x", 40))
	checkValue(t, list, "A", "1", true)
	checkValue(t, list, "B", "", true)
	checkValue(t, list, "AB", "A=4", true)
	checkValue(t, list, "ABCDEFGHIJKL", strings.Repeat("x", 40), true)
	for _, key := range []string{"", "C", "BA", "ABC", "a", "A=", "A=1", "=", "1", "ABCDEFGHIJK", "ABCDEFGHIJKLM", "A ", "\x00", "A\x00"} {
		checkValue(t, list, key, "", false)
		checkValue(t, nil, key, "", false)
		checkValue(t, []impl.Tag{}, key, "", false)
	}
	checkValue(t, nil, "A", "", false)
	for _, tag := range tenTags() {
		checkValue(t, tenTags(), tag.Key, tag.Value, true)
	}
	checkValue(t, tenTags(), "K", "", false)
}

func TestTagOfInvalidTags(t *testing.T) {
	for name, list := range invalidTags() {
		for _, tag := range append(tagsOf("A", "", "B", "", "J", "", "", ""), list[:min(3, len(list))]...) {
			if got, ok := impl.TagOf(list, tag.Key); ok || got != "" {
				t.Errorf("TagOf of %s, %q = %q, %v", name, tag.Key, got, ok)
			}
		}
	}
}

func TestPadTagsExamples(t *testing.T) {
	for _, list := range [][]impl.Tag{nil, tagsOf("A", ""), tagsOf("A", "x=y", "B", ""), tagsOf("A", "1", "A", "1"), tenTags(), longTags()} {
		least := len(slowTags(list))
		for _, size := range []int{least, least + 1, least + 2, 1000, impl.MaxBytes - 1, impl.MaxBytes} {
			checkPad(t, list, size)
		}
		for _, size := range append([]int{least - 1, 0, -1, -least, impl.MaxBytes + 1, 100000}, farNumbers...) {
			checkNoPad(t, "valid tags", list, size)
		}
		for size := range least {
			checkNoPad(t, "valid tags", list, size)
		}
	}
	for name, list := range invalidTags() {
		for _, size := range append([]int{-1, 0, 1, 1000, impl.MaxBytes, impl.MaxBytes + 1}, farNumbers...) {
			checkNoPad(t, name, list, size)
		}
	}
}

// roomyTags returns the same tags with spare capacity full of marks.
func roomyTags(list []impl.Tag) []impl.Tag {
	return append(slices.Clone(list), slices.Repeat(tagsOf("MARK", "7"), 8)...)[:len(list)]
}

// checkTagsUntouched fails if roomy tags differ from what they were, or share memory with a result.
func checkTagsUntouched(t *testing.T, list []impl.Tag, was []impl.Tag, result []impl.Tag) {
	t.Helper()
	for i := range result[:cap(result)] {
		result[:cap(result)][i] = impl.Tag{Key: "OTHER"}
	}
	if !slices.Equal(list, was) {
		t.Errorf("an argument %q became %q", was, list)
	}
	for _, tag := range list[len(list):cap(list)][:8] {
		if tag.Key != "MARK" {
			t.Error("the spare capacity of an argument was written")
		}
	}
}

func TestTagsTouchNothing(t *testing.T) {
	for _, was := range [][]impl.Tag{{}, tagsOf("A", "1"), tagsOf("A", "1", "B", "2", "A", "3"), tagsOf("B", "2", "C", "3"), tagsOf("B", "2", "A", "3", "A", "4", "C", "5")} {
		list := roomyTags(was)
		for _, key := range []string{"A", "B", "C", "D"} {
			out, ok := impl.SetTag(list, key, "9")
			if want, _ := slowSet(was, key, "9"); !ok || !slices.Equal(out, want) {
				t.Errorf("SetTag(%q, %q) = %q, %v", was, key, out, ok)
			}
			checkTagsUntouched(t, list, was, out)
		}
		impl.EncodeTags(list)
		impl.PadTags(list, 100)
		impl.TagOf(list, "A")
		checkTagsUntouched(t, list, was, nil)
	}
	was := append(slowTags(tagsOf("A", "1", "B", "2")), 9, 9)
	list := roomy(was)
	out, next, ok := impl.DecodeTags(list, 0)
	if !ok || next != len(list)-2 || len(out) != 2 {
		t.Errorf("DecodeTags = %q, %d, %v", out, next, ok)
	}
	checkUntouched(t, list, was, nil)
	list[3], list[7] = 'C', 'D'
	if !slices.Equal(out, tagsOf("A", "1", "B", "2")) {
		t.Errorf("the tags became %q", out)
	}
}

func TestP78TagsCanBeRead(t *testing.T) {
	r := rand.New(rand.NewSource(78))
	all := [][]impl.Tag{nil, tenTags(), longTags()}
	for range 500 {
		all = append(all, someTagsUpTo(r, 10))
	}
	for _, tags := range all {
		before, behind := someBytes(r, r.Intn(30)), someBytes(r, r.Intn(30))
		form := impl.EncodeTags(tags)
		for _, list := range [][]int{form, slices.Concat(form, behind)} {
			if got, next, ok := impl.DecodeTags(list, 0); !ok || next != len(form) || !slices.Equal(got, tags) {
				t.Errorf("DecodeTags(%v, 0) = %q, %d, %v instead of %q", list, got, next, ok, tags)
			}
		}
		list := slices.Concat(before, form, behind)
		if got, next, ok := impl.DecodeTags(list, len(before)); !ok || next != len(before)+len(form) || !slices.Equal(got, tags) {
			t.Errorf("DecodeTags(%v, %d) = %q, %d, %v instead of %q", list, len(before), got, next, ok, tags)
		}
	}
}

func TestP79WhatIsReadAsTagsAreTags(t *testing.T) {
	r := rand.New(rand.NewSource(79))
	read := 0
	for range 3000 {
		list := slices.Concat(someBytes(r, r.Intn(4)), slowTags(someTagsUpTo(r, 3)), slowTags(someTagsUpTo(r, 2)))
		for range r.Intn(3) {
			list[r.Intn(len(list))] = r.Intn(128)
		}
		for at := range list {
			tags, next, ok := impl.DecodeTags(list, at)
			if !ok {
				continue
			}
			read++
			if form := impl.EncodeTags(tags); !slices.Equal(form, list[at:next]) {
				t.Errorf("EncodeTags(%q) = %v, but %v was read at %d", tags, form, list[at:next], at)
			}
		}
	}
	if read < 3000 {
		t.Errorf("only %d tags were read", read)
	}
}

func TestP80SetTagsHaveTheirValue(t *testing.T) {
	r := rand.New(rand.NewSource(80))
	for range 1000 {
		list, key, value := someTagsUpTo(r, 9), someKey(r), someValue(r)
		set, ok := impl.SetTag(list, key, value)
		if !ok {
			t.Errorf("SetTag(%q, %q, %q) fails", list, key, value)
		}
		checkValue(t, set, key, value, true)
		checkSet(t, set, key, value, set)
		keep := func(tag impl.Tag) bool { return tag.Key == key }
		if a, b := slices.DeleteFunc(slices.Clone(list), keep), slices.DeleteFunc(slices.Clone(set), keep); !slices.Equal(a, b) {
			t.Errorf("SetTag(%q, %q) changes other tags to %q", list, key, set)
		}
		for _, tag := range list {
			if tag.Key != key {
				want, _ := impl.TagOf(list, tag.Key)
				checkValue(t, set, tag.Key, want, true)
			}
		}
	}
}

func TestP81TagsAreFoundByTheirKeys(t *testing.T) {
	r := rand.New(rand.NewSource(81))
	found, not := 0, 0
	for range 1000 {
		list := someTagsUpTo(r, 10)
		keys := map[string]bool{someKey(r): true}
		for _, tag := range list {
			keys[tag.Key] = true
		}
		for _, key := range slices.Sorted(maps.Keys(keys)) {
			want, there := slowValue(list, key)
			checkValue(t, list, key, want, there)
			if !there {
				not++
				continue
			}
			found++
			first := slices.Index(list, impl.Tag{Key: key, Value: want})
			if _, ok := impl.TagOf(list[:first], key); ok {
				t.Errorf("TagOf(%q, %q) is not the first one", list, key)
			}
		}
	}
	if found < 1000 || not < 100 {
		t.Errorf("%d keys are found, and %d are not", found, not)
	}
}

func TestP82PaddingKeepsRoom(t *testing.T) {
	r := rand.New(rand.NewSource(82))
	for range 300 {
		list := someTagsUpTo(r, 10)
		least := len(impl.EncodeTags(list))
		for _, size := range []int{least, least + 1, least + r.Intn(impl.MaxBytes-least+1), impl.MaxBytes} {
			padded, ok := impl.PadTags(list, size)
			if !ok || len(padded) != size || slices.ContainsFunc(padded[least:], func(n int) bool { return n != 0 }) {
				t.Errorf("PadTags(%q, %d) = %v, %v", list, size, padded, ok)
				continue
			}
			if got, next, ok := impl.DecodeTags(padded, 0); !ok || next != least || !slices.Equal(got, list) {
				t.Errorf("DecodeTags(%v, 0) = %q, %d, %v instead of %q", padded, got, next, ok, list)
			}
		}
		checkNoPad(t, "tags", list, least-1)
		checkNoPad(t, "tags", list, r.Intn(least))
	}
}

func TestP142NewTagsComeLast(t *testing.T) {
	r := rand.New(rand.NewSource(142))
	set := 0
	for range 1000 {
		list, key, value := someTagsUpTo(r, 10), someKey(r), someValue(r)
		if _, ok := slowValue(list, key); ok {
			continue
		}
		if len(list) == impl.MaxTags {
			checkNoSet(t, "ten tags", list, key, value)
			continue
		}
		set++
		checkSet(t, list, key, value, append(slices.Clone(list), impl.Tag{Key: key, Value: value}))
	}
	if set < 300 {
		t.Errorf("only %d tags are set", set)
	}
}

func TestP143TagsHaveTheirLength(t *testing.T) {
	r := rand.New(rand.NewSource(143))
	all := [][]impl.Tag{nil, tagsOf("A", ""), tenTags(), longTags()}
	for range 500 {
		all = append(all, someTagsUpTo(r, 10))
	}
	for _, list := range all {
		want := 1
		for _, tag := range list {
			want += 2 + len(tag.Key) + len(tag.Value)
		}
		if got := len(impl.EncodeTags(list)); got != want {
			t.Errorf("EncodeTags(%q) has %d bytes instead of %d", list, got, want)
		}
	}
}
