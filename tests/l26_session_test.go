package tests

import (
	"math/rand"
	"regexp"
	"slices"
	"strconv"
	"strings"
	"testing"

	"loop.example/losslessaudio/impl"
)

// sessionNumber is a word that is a number.
var sessionNumber = regexp.MustCompile(`^(0|[1-9][0-9]{0,4})$`)

// sessionForms are the lines that are commands.
var sessionForms = regexp.MustCompile(`^(tone( [^ ]*){3}|(cut|gain)( [^ ]*){2}|(fade|size)( [^ ]*)|reverse|twice|length|peak|digest|narrow)$`)

// slowNumbers returns the numbers that words are.
func slowNumbers(words []string) []int {
	numbers := []int{}
	for _, word := range words {
		n := -1
		if sessionNumber.MatchString(word) {
			n = 0
			for _, c := range []byte(word) {
				n = 10*n + int(c-'0')
			}
		}
		numbers = append(numbers, n)
	}
	return numbers
}

// slowTone returns the audio of a tone, and true if the numbers allow it.
func slowTone(count int, period int, level int) (impl.Audio, bool) {
	if count < 0 || count > 256 || period < 1 || period > 256 || level < 0 {
		return impl.Audio{}, false
	}
	list, sign := []int{}, 1
	for len(list) < count {
		for range period {
			list = append(list, sign*level)
		}
		sign = -sign
	}
	list = list[:count]
	if len(list) > 0 && level > 32767 {
		return impl.Audio{}, false
	}
	return impl.Audio{Rate: 8000, Depth: 16, Channels: [][]int{list}}, true
}

// slowChange returns what a command that changes audio makes of it, and true if it can.
func slowChange(word string, a impl.Audio, n []int) (impl.Audio, bool) {
	total := len(a.Channels[0])
	switch {
	case word == "cut" && n[0] >= 0 && n[0] <= n[1] && n[1] <= total:
		return slowCut(a, n[0], n[1]), true
	case word == "fade" && n[0] >= 0 && n[0] <= total:
		return slowFade(a, n[0]), true
	case word == "gain" && n[0] >= 1 && n[0] <= 64 && n[1] >= 1 && n[1] <= 64:
		b, _ := slowScale(a, n[0], n[1])
		return b, true
	case word == "reverse":
		return backward(a), true
	case word == "twice" && 2*total <= 256:
		return impl.Audio{Rate: a.Rate, Depth: a.Depth, Channels: [][]int{slices.Repeat(a.Channels[0], 2)}}, true
	}
	return a, false
}

// slowLine returns the output of a line and the audio behind it; audio without channels is none.
func slowLine(a impl.Audio, line string) (string, impl.Audio) {
	words := strings.Split(line, " ")
	n := slowNumbers(words[1:])
	if !sessionForms.MatchString(line) || words[0] != "tone" && len(a.Channels) == 0 {
		return "what", a
	}
	switch words[0] {
	case "tone":
		if b, ok := slowTone(n[0], n[1], n[2]); ok {
			return "ok", b
		}
		return "no", a
	case "size":
		if n[0] < 1 || n[0] > 64 || len(slowStream(a, n[0])) > 2048 {
			return "no", a
		}
		return strconv.Itoa(len(slowStream(a, n[0]))), a
	case "length":
		return strconv.Itoa(len(a.Channels[0])), a
	case "peak":
		return strconv.Itoa(slowPeak(a)), a
	case "digest":
		return strconv.Itoa(slowDigest(a)), a
	case "narrow":
		return strconv.Itoa(slowNarrow(a).Depth), a
	}
	if b, ok := slowChange(words[0], a, n); ok {
		return "ok", b
	}
	return "no", a
}

// slowSession returns the output of all lines, line by line.
func slowSession(lines []string) string {
	out, a := "", impl.Audio{}
	for i, line := range lines {
		if i < 20 {
			text := ""
			text, a = slowLine(a, line)
			out += text + "\n"
		}
	}
	return out
}

// checkSession fails if the output of lines is not the wanted one, without the ends of its lines.
func checkSession(t *testing.T, lines []string, want ...string) {
	t.Helper()
	text := ""
	for _, line := range want {
		text += line + "\n"
	}
	if got := impl.RunSession(lines); got != text {
		t.Errorf("RunSession(%q) = %q instead of %q", lines, got, text)
	}
}

// answer returns the output of the last one of at most MaxLines lines.
func answer(t *testing.T, lines ...string) string {
	t.Helper()
	out := strings.Split(impl.RunSession(lines), "\n")
	if len(out) != len(lines)+1 || out[len(lines)] != "" {
		t.Fatalf("RunSession(%q) has the lines %q", lines, out)
	}
	return out[len(lines)-1]
}

// someWord returns a word that is often a number; it is the same in every run.
func someWord(r *rand.Rand) string {
	switch r.Intn(12) {
	case 0:
		return []string{"", "x", "-1", "+1", "00", "01", "1.0", "100000", "999999", "99999", "0x1", "1_0", "٣", "\t1", "1\n", "-0"}[r.Intn(16)]
	case 1:
		return strconv.Itoa([]int{255, 256, 257, 32767, 32768, 65, 64, 63}[r.Intn(8)])
	case 2:
		return strconv.Itoa(r.Intn(100000))
	case 3, 4, 5:
		return strconv.Itoa(r.Intn(80))
	}
	return strconv.Itoa(r.Intn(9))
}

// someTone returns a line with a tone that is accepted; it is the same in every run.
func someTone(r *rand.Rand) string {
	return "tone " + strconv.Itoa(r.Intn(1+1<<r.Intn(9))) + " " + strconv.Itoa(1+r.Intn(1<<r.Intn(9))) + " " + strconv.Itoa(r.Intn(1<<r.Intn(16)))
}

// someCommand returns a line that is often a command; it is the same in every run.
func someCommand(r *rand.Rand) string {
	words := []string{"tone", "cut", "fade", "gain", "reverse", "twice", "size", "length", "peak", "digest", "narrow", "cut", "gain", "fade", "what", ""}
	counts := []int{3, 2, 1, 2, 0, 0, 1, 0, 0, 0, 0, 2, 2, 1, 0, 0}
	i := r.Intn(len(words))
	line, count := words[i], counts[i]
	if r.Intn(20) == 0 {
		count = r.Intn(5)
	}
	for range count {
		line += " " + someWord(r)
	}
	switch r.Intn(40) {
	case 0:
		line += " "
	case 1:
		line = " " + line
	case 2:
		line = strings.Replace(line, " ", "  ", 1)
	case 3:
		line = strings.ToUpper(line)
	}
	return line
}

// someLines returns lines of a session, most of which have a tone early; they are the same in every run.
func someLines(r *rand.Rand, count int) []string {
	lines := []string{}
	for i := range count {
		line := someCommand(r)
		if i < 2 && r.Intn(2) == 0 || r.Intn(15) == 0 {
			line = someTone(r)
		}
		lines = append(lines, line)
	}
	return lines
}

func TestLimitsOfSessions(t *testing.T) {
	if impl.MaxLines != 20 || impl.SessionRate != 8000 {
		t.Error("a limit is wrong")
	}
}

func TestSessionsOfNoLines(t *testing.T) {
	checkSession(t, nil)
	checkSession(t, []string{})
	checkSession(t, []string{""}, "what")
	checkSession(t, []string{"", "", " "}, "what", "what", "what")
}

func TestSessionExamples(t *testing.T) {
	checkSession(t,
		[]string{"peak", "tone 6 2 64", "length", "peak", "narrow", "cut 1 3", "length", "gain 600 1", "twice", "length", "reverse", "size 0", "fade 9", "tone 5 0 1", "peak", "what"},
		"what", "ok", "6", "64", "10", "ok", "2", "no", "ok", "4", "ok", "no", "no", "no", "64", "what")
	// The samples are 9, 9, -9 and -9, then 0, 2, -4 and -7, then 0, 4, -8 and -14.
	checkSession(t, []string{"tone 4 2 9", "fade 4", "peak", "gain 2 1", "peak", "narrow", "cut 0 3", "peak", "narrow", "length"}, "ok", "ok", "7", "ok", "14", "15", "ok", "8", "14", "3")
	// A frame of equal samples has 11 bytes: 6 before its samples, 3 for them and 2 behind them.
	checkSession(t, []string{"tone 9 9 1000", "size 64", "size 9", "size 8", "size 3", "cut 0 8", "size 4", "cut 0 0", "size 4"}, "ok", "22", "22", "33", "44", "ok", "33", "ok", "11")
	checkSession(t, []string{"tone 0 1 0", "length", "peak", "narrow", "size 1", "twice", "reverse", "cut 0 0", "fade 0", "gain 1 64", "length"}, "ok", "0", "0", "4", "11", "ok", "ok", "ok", "ok", "ok", "0")
}

func TestTonesAreWhatTheyShouldBe(t *testing.T) {
	for _, c := range []struct {
		line string
		want []int
	}{
		{"tone 0 1 5", nil}, {"tone 1 1 5", []int{5}}, {"tone 5 1 5", []int{5, -5, 5, -5, 5}}, {"tone 5 2 7", []int{7, 7, -7, -7, 7}}, {"tone 5 3 1", []int{1, 1, 1, -1, -1}}, {"tone 3 3 1", []int{1, 1, 1}}, {"tone 3 4 1", []int{1, 1, 1}},
		{"tone 4 256 32767", []int{32767, 32767, 32767, 32767}}, {"tone 4 1 32767", []int{32767, -32767, 32767, -32767}}, {"tone 3 1 0", []int{0, 0, 0}}, {"tone 256 256 3", slices.Repeat([]int{3}, 256)},
		{"tone 256 1 3", slices.Repeat([]int{3, -3}, 128)}, {"tone 256 255 3", append(slices.Repeat([]int{3}, 255), -3)}, {"tone 256 128 3", append(slices.Repeat([]int{3}, 128), slices.Repeat([]int{-3}, 128)...)},
	} {
		a := audioOf(16, c.want)
		checkSession(t, []string{c.line, "digest", "length", "peak"}, "ok", strconv.Itoa(slowDigest(a)), strconv.Itoa(len(c.want)), strconv.Itoa(slowPeak(a)))
	}
}

func TestTonesThatAreRefused(t *testing.T) {
	for _, line := range []string{
		"tone 257 1 1", "tone 258 2 2", "tone 65536 1 1", "tone 99999 1 1", "tone -1 1 1", "tone x 1 1", "tone  1 1", "tone 1 0 1", "tone 1 257 1", "tone 1 99999 1", "tone 1 -1 1", "tone 1  1", "tone 0 0 0", "tone 0 257 0",
		"tone 1 1 32768", "tone 1 1 40000", "tone 1 1 99999", "tone 2 2 32768", "tone 256 1 65536", "tone 1 1 -1", "tone 1 1 -0", "tone 1 1 ", "tone 1 1 x", "tone 0 1 -1", "tone 0 1 ", "tone 0 1 100000", "tone 0 1 00", "tone 0 1 00000", "tone   ",
	} {
		// Refused before there is audio, there is still none, and behind it the audio stays.
		checkSession(t, []string{line, "length", "peak"}, "no", "what", "what")
		checkSession(t, []string{"tone 3 1 7", line, "length", "peak", "digest"}, "ok", "no", "3", "7", strconv.Itoa(slowDigest(audioOf(16, []int{7, -7, 7}))))
		checkSession(t, []string{line, "tone 1 1 2", "peak", line, "peak"}, "no", "ok", "2", "no", "2")
	}
	// Without samples no level is too great.
	checkSession(t, []string{"tone 0 1 32768", "length", "tone 0 256 99999", "length", "peak"}, "ok", "0", "ok", "0", "0")
}

func TestCommandsBeforeTheFirstTone(t *testing.T) {
	commands := []string{"cut 0 0", "fade 0", "gain 1 1", "reverse", "twice", "size 1", "length", "peak", "digest", "narrow", "cut", "cut x y", "tone", "tone 1 1", "size 0", "fade 99999"}
	want := slices.Repeat([]string{"what"}, len(commands))
	checkSession(t, commands, want...)
	checkSession(t, append(slices.Clone(commands), "tone 300 1 1", "peak", "tone 1 1 1", "peak"), append(want, "no", "what", "ok", "1")...)
}

func TestLinesOfSessions(t *testing.T) {
	for _, c := range []struct {
		line string
		want string
	}{
		// One command with as many words as it wants, with one less and one more.
		{"cut 1 2", "ok"}, {"cut 1", "what"}, {"cut", "what"}, {"cut 1 2 3", "what"}, {"fade 1", "ok"}, {"fade", "what"}, {"fade 1 1", "what"}, {"gain 1 1", "ok"}, {"gain 1", "what"}, {"gain", "what"}, {"gain 1 1 1", "what"},
		{"reverse", "ok"}, {"reverse 1", "what"}, {"twice", "ok"}, {"twice 2", "what"}, {"size 4", "22"}, {"size", "what"}, {"size 4 4", "what"}, {"length", "4"}, {"length 1", "what"}, {"peak", "9"}, {"peak 1", "what"},
		{"narrow", "16"}, {"narrow 4", "what"}, {"digest 1", "what"}, {"tone 1 1 1", "ok"}, {"tone 1 1", "what"}, {"tone 1", "what"}, {"tone", "what"}, {"tone 1 1 1 1", "what"},
		// Words that are empty, spaces, and other words.
		{"", "what"}, {" ", "what"}, {"  ", "what"}, {"peak ", "what"}, {" peak", "what"}, {"peak  ", "what"}, {"cut 1  2", "what"}, {"cut  1 2", "what"}, {"cut  2", "no"}, {"cut 0 ", "no"}, {"cut  ", "no"}, {"cut ", "what"}, {"cut 1 2 ", "what"}, {" cut 1 2", "what"},
		{"fade ", "no"}, {"fade  ", "what"}, {"size ", "no"}, {"gain 1 ", "no"}, {"gain  1", "no"}, {"reverse ", "what"}, {"twice ", "what"}, {"length ", "what"}, {"digest ", "what"}, {"narrow ", "what"}, {"tone 1 1 1 ", "what"}, {"tone  1 1 1", "what"},
		{"Peak", "what"}, {"PEAK", "what"}, {"peaks", "what"}, {"pea", "what"}, {"peak\n", "what"}, {"peak\t", "what"}, {"cut\t1\t2", "what"}, {"what", "what"}, {"ok", "what"}, {"no", "what"}, {"4", "what"}, {"narrow\x00", "what"}, {"\xff", "what"},
		// Numbers.
		{"cut 0 4", "ok"}, {"cut 4 4", "ok"}, {"cut 0 0", "ok"}, {"cut 00 4", "no"}, {"cut 0 04", "no"}, {"cut +0 4", "no"}, {"cut -0 4", "no"}, {"cut 0 +4", "no"}, {"cut 0 -4", "no"}, {"cut -1 4", "no"}, {"cut 0 4.0", "no"}, {"cut 0 4x", "no"}, {"cut 0 x4", "no"}, {"cut a b", "no"},
		{"cut 0 0x4", "no"}, {"cut 0 4e0", "no"}, {"cut 0 ٤", "no"}, {"cut 0 \t4", "no"}, {"cut 0 4\n", "no"}, {"cut 0 1_0", "no"}, {"cut 0 99999", "no"}, {"cut 0 100000", "no"}, {"cut 0 000004", "no"}, {"cut 0 18446744073709551620", "no"}, {"cut 0 4294967300", "no"}, {"cut 0 -9223372036854775808", "no"},
		{"gain 64 64", "ok"}, {"gain 064 64", "no"}, {"size 04", "no"}, {"size 64", "22"}, {"size 065", "no"},
	} {
		checkSession(t, []string{"tone 4 4 9", c.line}, "ok", c.want)
	}
	// The five digits of a level.
	checkSession(t, []string{"tone 1 1 32767", "peak", "tone 1 1 032767", "tone 1 1 9999", "peak", "tone 1 1 10000", "peak"}, "ok", "32767", "no", "ok", "9999", "ok", "10000")
	checkSession(t, []string{"tone 0 1 99999", "tone 0 1 100000", "tone 0 1 10000", "tone 0 1 0", "tone 0 1 999999", "tone 0 1 000000"}, "ok", "no", "ok", "ok", "no", "no")
}

func TestCommandsThatFailChangeNothing(t *testing.T) {
	a := audioOf(16, slices.Repeat([]int{100, -100}, 128))
	want := []string{"ok", strconv.Itoa(slowDigest(a)), "no", strconv.Itoa(slowDigest(a)), "256", "100"}
	for _, line := range []string{
		"cut 1 0", "cut 256 255", "cut 0 257", "cut 257 257", "cut -1 5", "cut 5 -1", "cut 0 x", "fade 257", "fade -1", "fade x", "fade 99999", "gain 0 1", "gain 1 0", "gain 65 1", "gain 1 65", "gain x 1", "gain 1 x", "gain -1 1",
		"twice", "size 0", "size 65", "size x", "size -1", "size 1", "size 99999", "tone 257 1 1", "tone 1 0 1", "tone 1 1 32768", "tone x 1 1",
	} {
		checkSession(t, []string{"tone 256 1 100", "digest", line, "digest", "length", "peak"}, want...)
	}
	for _, line := range []string{"", "what", "peak 1", "size", "cut 1", "reverse 1", "tone"} {
		want[2] = "what"
		checkSession(t, []string{"tone 256 1 100", "digest", line, "digest", "length", "peak"}, want...)
	}
}

func TestCommandsThatTellSomethingChangeNothing(t *testing.T) {
	a, ok := slowTone(100, 7, 4000)
	digest := strconv.Itoa(slowDigest(a))
	for line, told := range map[string]string{
		"size 64": strconv.Itoa(len(slowStream(a, 64))), "size 10": strconv.Itoa(len(slowStream(a, 10))), "length": "100", "peak": "4000", "digest": digest, "narrow": "11", "size 0": "no",
	} {
		checkSession(t, []string{"tone 100 7 4000", line, "digest", line}, "ok", told, digest, told)
	}
	if !ok {
		t.Error("the tone is refused")
	}
}

func TestLongestAudioOfSessions(t *testing.T) {
	checkSession(t, []string{"tone 128 3 5", "twice", "length", "twice", "length", "cut 1 256", "twice", "cut 0 129", "twice", "cut 1 129", "twice", "length"}, "ok", "ok", "256", "no", "256", "ok", "no", "ok", "no", "ok", "ok", "256")
	checkSession(t, []string{"tone 256 1 1", "fade 256", "length", "cut 0 256", "cut 255 256", "length", "cut 1 1", "length", "cut 0 1", "twice"}, "ok", "ok", "256", "ok", "ok", "1", "ok", "0", "no", "ok")
	// Exactly as loud as the depth allows, and limited.
	checkSession(t, []string{"tone 2 1 16384", "gain 2 1", "peak", "narrow", "gain 64 1", "peak", "cut 0 1", "peak", "tone 2 2 512", "gain 64 1", "peak"}, "ok", "ok", "32768", "16", "ok", "32768", "ok", "32767", "ok", "ok", "32767")
}

func TestSessionsOfManyLines(t *testing.T) {
	for _, count := range []int{19, 20, 21, 22, 40, 1000} {
		lines := append([]string{"tone 7 2 3"}, slices.Repeat([]string{"length"}, count-1)...)
		want := append([]string{"ok"}, slices.Repeat([]string{"7"}, min(count, 20)-1)...)
		checkSession(t, lines, want...)
	}
	// The line behind the last one is not executed, whatever it is.
	lines := slices.Repeat([]string{"what"}, 19)
	checkSession(t, append(slices.Clone(lines), "tone 1 1 1", "peak"), append(slices.Clone(lines), "ok")...)
	checkSession(t, append(slices.Clone(lines), "", "tone 1 1 1"), append(slices.Clone(lines), "what")...)
}

func TestSessionsTouchNothing(t *testing.T) {
	lines := append(someLines(rand.New(rand.NewSource(1)), 30), "x")
	was := slices.Clone(lines)
	first := impl.RunSession(lines[:25])
	if again := impl.RunSession(lines[:25]); again != first || !slices.Equal(lines, was) {
		t.Errorf("RunSession is %q, and then %q", first, again)
	}
	// Nothing is left of another session.
	impl.RunSession([]string{"tone 5 1 1"})
	checkSession(t, []string{"peak", "length"}, "what", "what")
}

func TestSessionsFollowTheirDefinition(t *testing.T) {
	r := rand.New(rand.NewSource(2))
	outputs := map[string]int{}
	for range 1200 {
		lines := someLines(r, r.Intn(24))
		want := slowSession(lines)
		if got := impl.RunSession(lines); got != want {
			t.Errorf("RunSession(%q) = %q instead of %q", lines, got, want)
		}
		for _, text := range strings.Fields(want) {
			outputs[text]++
		}
	}
	if outputs["ok"] < 2000 || outputs["no"] < 1000 || outputs["what"] < 1000 || len(outputs) < 500 {
		t.Errorf("%d lines are ok, %d no and %d what; there are %d outputs", outputs["ok"], outputs["no"], outputs["what"], len(outputs))
	}
}

func TestP123SessionsRunLineByLine(t *testing.T) {
	r := rand.New(rand.NewSource(123))
	for range 150 {
		lines := someLines(r, 1+r.Intn(24))
		all := impl.RunSession(lines)
		if strings.Count(all, "\n") != min(len(lines), impl.MaxLines) {
			t.Errorf("RunSession(%q) = %q", lines, all)
		}
		for count := range len(lines) + 1 {
			part := impl.RunSession(lines[:count])
			if !strings.HasPrefix(all, part) || strings.Count(part, "\n") != min(count, impl.MaxLines) {
				t.Errorf("RunSession(%q) = %q, and of all lines it is %q", lines[:count], part, all)
			}
		}
	}
}

func TestP124ReversingTwiceIsHeardByNobody(t *testing.T) {
	r := rand.New(rand.NewSource(124))
	heard := 0
	for range 500 {
		lines := someLines(r, r.Intn(impl.MaxLines-2))
		want := answer(t, append(slices.Clone(lines), "digest")...)
		if got := answer(t, append(slices.Clone(lines), "reverse", "reverse", "digest")...); got != want {
			t.Errorf("behind %q digest prints %s, and %s with reverse twice", lines, want, got)
		}
		if once := answer(t, append(slices.Clone(lines), "reverse", "digest")...); once != want {
			heard++
		}
	}
	if heard < 100 {
		t.Errorf("reverse once changes only %d digests", heard)
	}
}

func TestP125NewTonesBeginAnew(t *testing.T) {
	r := rand.New(rand.NewSource(125))
	for range 500 {
		before, behind := someLines(r, r.Intn(10)), append([]string{someTone(r)}, someLines(r, r.Intn(10))...)
		alone, out := impl.RunSession(behind), impl.RunSession(append(slices.Clone(before), behind...))
		if !strings.HasPrefix(alone, "ok\n") || strings.TrimPrefix(out, impl.RunSession(before)) != alone {
			t.Errorf("behind %q the lines %q print %q instead of %q", before, behind, out, alone)
		}
	}
}

func TestP158TwiceIsNotLouder(t *testing.T) {
	r := rand.New(rand.NewSource(158))
	joined := 0
	for range 500 {
		lines := append([]string{someTone(r)}, someLines(r, r.Intn(impl.MaxLines-2))...)
		want := answer(t, append(slices.Clone(lines), "peak")...)
		if got := answer(t, append(slices.Clone(lines), "twice", "peak")...); got != want || got == "what" {
			t.Errorf("behind %q peak prints %s, and %s with twice", lines, want, got)
		}
		if answer(t, append(slices.Clone(lines), "twice")...) == "ok" && want != "0" {
			joined++
		}
	}
	if joined < 200 {
		t.Errorf("only %d audios were joined", joined)
	}
}
