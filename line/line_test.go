package line_test

import (
	"encoding/hex"
	"fmt"
	"math"
	"math/rand"
	"regexp"
	"slices"
	"strconv"
	"strings"
	"testing"

	"cordelle/api"
	"cordelle/line"
)

// forms are what belongs to each word, as the chapter's table has it: n is a number, w
// a way, b bytes.
var forms = map[string]string{
	"close": "", "clock": "", "paths": "", "flows": "", "played": "", "counts": "", "audit": "",
	"session": "nnnnnn",
	"submit":  "nb",
	"path":    "nnn",
	"tick":    "n",
	"deliver": "wnn", "lose": "wnn", "twin": "wnn",
	"all": "wn", "net": "wn",
	"turn":  "wnnnn",
	"forge": "wnb",
}

// words are all of them, rising.
var words = []string{
	"all", "audit", "clock", "close", "counts", "deliver", "flows", "forge", "lose", "net", "path", "paths", "played", "session", "submit", "tick", "turn", "twin",
}

// patterns are how lines of each word look.
var patterns = func() map[string]*regexp.Regexp {
	kinds := map[rune]string{'n': " +([0-9]{1,10})", 'w': " +(there|back)", 'b': " +(-|(?:[0-9a-f][0-9a-f])+)"}
	l := map[string]*regexp.Regexp{}
	for word, parts := range forms {
		pattern := "^ *" + word
		for _, kind := range parts {
			pattern += kinds[kind]
		}
		l[word] = regexp.MustCompile(pattern + " *$")
	}
	return l
}()

// parsed is what a text is, by the document's sentences.
func parsed(s string) (line.Step, api.Errno) {
	if len(s) > 4000 {
		return line.Step{}, api.ErrBig
	}
	for word, pattern := range patterns {
		m := pattern.FindStringSubmatch(s)
		if m == nil {
			continue
		}
		x := line.Step{Word: word}
		for i, part := range m[1:] {
			switch forms[word][i] {
			case 'n':
				n, _ := strconv.Atoi(part)
				if n > 4294967295 {
					return line.Step{}, api.ErrForm
				}
				x.N = append(x.N, n)
			case 'w':
				x.N = append(x.N, map[string]int{"there": 0, "back": 1}[part])
			default:
				b, _ := hex.DecodeString(strings.Trim(part, "-"))
				x.S = append(x.S, string(b))
			}
		}
		return x, api.OK
	}
	return line.Step{}, api.ErrForm
}

// written is the line of a Step, by the document's sentences: it is one, if it is read
// as the Step.
func written(x line.Step) string {
	s, n, b := x.Word, x.N, x.S
	for _, kind := range forms[x.Word] {
		switch {
		case kind == 'b' && len(b) > 0 && b[0] == "":
			s, b = s+" -", b[1:]
		case kind == 'b' && len(b) > 0:
			s, b = s+" "+hex.EncodeToString([]byte(b[0])), b[1:]
		case kind == 'w' && len(n) > 0 && (n[0] == 0 || n[0] == 1):
			s, n = s+[]string{" there", " back"}[n[0]], n[1:]
		case kind == 'n' && len(n) > 0:
			s, n = fmt.Sprint(s, " ", n[0]), n[1:]
		}
	}
	if y, e := parsed(s); e != api.OK || !same(x, y) {
		return ""
	}
	return s
}

// same tells whether Steps are.
func same(x, y line.Step) bool {
	return x.Word == y.Word && slices.Equal(x.N, y.N) && slices.Equal(x.S, y.S)
}

// step is one.
func step(word string, n []int, s ...string) line.Step { return line.Step{Word: word, N: n, S: s} }

// is holds what a text is read as against a Step.
func is(t *testing.T, s string, want line.Step) {
	t.Helper()
	if x, e := line.Parse(s); e != api.OK || !same(x, want) {
		t.Errorf("%.60q: %+v %d, not %+v", s, x, e, want)
	}
}

// isNot holds it that a text is no line, with that error, and nothing beside it.
func isNot(t *testing.T, s string, want api.Errno) {
	t.Helper()
	if x, e := line.Parse(s); e != want || x.Word != "" || len(x.N) > 0 || len(x.S) > 0 {
		t.Errorf("%.60q: %+v %d, not %d", s, x, e, want)
	}
}

// some is a line of each word, and what it is.
var some = []struct {
	text string
	x    line.Step
}{
	{"close", step("close", nil)}, {"clock", step("clock", nil)}, {"paths", step("paths", nil)}, {"flows", step("flows", nil)},
	{"played", step("played", nil)}, {"counts", step("counts", nil)}, {"audit", step("audit", nil)},
	{"session 20 50 21 2 3 30", step("session", []int{20, 50, 21, 2, 3, 30})},
	{"submit 5 6869", step("submit", []int{5}, "hi")},
	{"submit 7 -", step("submit", []int{7}, "")},
	{"path 1 0 100", step("path", []int{1, 0, 100})},
	{"tick 9", step("tick", []int{9})},
	{"deliver there 1 0", step("deliver", []int{0, 1, 0})},
	{"lose back 3 2", step("lose", []int{1, 3, 2})},
	{"twin there 15 4", step("twin", []int{0, 15, 4})},
	{"all back 2", step("all", []int{1, 2})},
	{"net there 16", step("net", []int{0, 16})},
	{"turn back 1 2 100 2147483648", step("turn", []int{1, 1, 2, 100, 2147483648})},
	{"forge there 1 80c80000", step("forge", []int{0, 1}, "\x80\xc8\x00\x00")},
	{"forge back 0 -", step("forge", []int{1, 0}, "")},
}

// The chapter's example, and each word with just what belongs to it.
func TestP311Words(t *testing.T) {
	seen := map[string]bool{}
	for _, l := range some {
		is(t, l.text, l.x)
		if s := l.x.Text(); s != l.text {
			t.Errorf("%+v: %q", l.x, s)
		}
		seen[l.x.Word] = true
	}
	if len(seen) != len(forms) {
		t.Errorf("%v", seen)
	}
}

// One part less, one more, wherever it is, of whichever kind; parts in another order.
func TestP311Parts(t *testing.T) {
	for _, l := range some {
		parts := strings.Fields(l.text)
		for i := range parts {
			isNot(t, strings.Join(slices.Delete(slices.Clone(parts), i, i+1), " "), api.ErrForm)
		}
		for i := range len(parts) + 1 {
			for _, more := range []string{"1", "0", "there", "back", "-", "00", "6869", "tick", "clock", "x"} {
				isNot(t, strings.Join(slices.Insert(slices.Clone(parts), i, more), " "), api.ErrForm)
			}
		}
		isNot(t, l.text+" "+l.text, api.ErrForm)
	}
	for _, s := range []string{"deliver 1 there 0", "deliver 1 0 there", "submit 00 x 5", "submit ff 5", "forge there 00ff 1", "forge 1 there 00ff", "forge ff there 1", "all 1 there", "1 tick", "turn 1 1 100 1 back"} {
		isNot(t, s, api.ErrForm)
	}
	// A number may look like bytes, and bytes like a number.
	is(t, "submit 10 10", step("submit", []int{10}, "\x10"))
	is(t, "forge back 10 9999999999", step("forge", []int{1, 10}, "\x99\x99\x99\x99\x99"))
}

// Blanks may be ahead, between and behind, and are wanting between no two parts.
func TestP311Blanks(t *testing.T) {
	for n := range 60 {
		isNot(t, strings.Repeat(" ", n), api.ErrForm)
	}
	for _, l := range some {
		for n := range 5 {
			blanks := strings.Repeat(" ", n)
			is(t, blanks+l.text, l.x)
			is(t, l.text+blanks, l.x)
			is(t, blanks+strings.ReplaceAll(l.text, " ", " "+blanks)+blanks, l.x)
		}
		if strings.Contains(l.text, " ") {
			isNot(t, strings.Replace(l.text, " ", "", 1), api.ErrForm)
			isNot(t, strings.ReplaceAll(l.text, " ", ""), api.ErrForm)
		}
	}
}

// Other bytes that look like blanks are none.
func TestP311OtherBlanks(t *testing.T) {
	for _, other := range []string{"\t", "\n", "\r", "\v", "\f", "\x00", "\x1c", "\x1f", "\x7f", "\x85", "\xa0", "\u00a0", "\u0085", "\u2003", "\u2028", "\u3000", "\u200b", "\ufeff", "_", ",", ";", "+", "\xe3\x80"} {
		isNot(t, other, api.ErrForm)
		isNot(t, " "+other+" ", api.ErrForm)
		for _, l := range some {
			isNot(t, other+l.text, api.ErrForm)
			isNot(t, l.text+other, api.ErrForm)
			isNot(t, other+" "+l.text, api.ErrForm)
			isNot(t, l.text+" "+other, api.ErrForm)
			for i := range len(l.text) {
				isNot(t, l.text[:i]+other+l.text[i:], api.ErrForm)
				if l.text[i] == ' ' {
					isNot(t, l.text[:i]+other+l.text[i+1:], api.ErrForm)
				}
			}
		}
	}
}

// Words with great letters, cut short, longer, and others, are none.
func TestP311OtherWords(t *testing.T) {
	for _, l := range some {
		word, rest, _ := strings.Cut(l.text, " ")
		others := []string{strings.ToUpper(word), strings.ToUpper(word[:1]) + word[1:], word[:len(word)-1] + strings.ToUpper(word[len(word)-1:]), word + word, word + "x", "x" + word, "-" + word, word + ".", "\"" + word + "\""}
		for i := range word {
			others = append(others, word[:i], word[i+1:], word[:i]+word[i+1:], word[:i]+"-"+word[i:])
		}
		for _, other := range others {
			// What is left of paths is a word, too.
			if _, also := forms[other]; !also {
				isNot(t, other+" "+rest, api.ErrForm)
			}
		}
	}
	for _, other := range []string{"nothing", "other", "0", "-", "there", "back", "code", "ok", "no", "none", "run", "line", "do", "ticks", "audits", "\x00", "\xff", "täck", "ｔｉｃｋ"} {
		for _, parts := range []string{"", " 1", " there 1", " there 1 0", " 1 00", " 1 1 1", " there 1 00", " there 1 1 1 1", " 1 1 1 1 1 1"} {
			isNot(t, other+parts, api.ErrForm)
		}
	}
}

// numbers are some, and what they are.
var numbers = map[string]int{
	"0": 0, "1": 1, "9": 9, "10": 10, "00": 0, "007": 7, "08": 8, "0000000000": 0, "0000000001": 1, "0999999999": 999999999, "1000000000": 1000000000,
	"1234567890": 1234567890, "2147483647": 2147483647, "2147483648": 2147483648, "4294967294": 4294967294, "4294967295": 4294967295, "0429496729": 429496729, "65536": 65536, "1048577": 1048577,
}

// noNumbers are none.
var noNumbers = []string{
	"4294967296", "4294967297", "4294967300", "5000000000", "8589934592", "9999999999", "00000000000", "00000000001", "04294967295", "10000000000", "18446744073709551616", "18446744073709551617",
	"000000000000000000000000000001", "-1", "-0", "+1", "+0", "-", "--1", "1-", "1+", "x", "1x", "x1", "a", "1a", "0x1", "0b1", "0o7", "1e3", "1.0", "1.", ".1", "1_0", "_1", "1,000", "٣", "１", "1\x00", "\x001", "ff", "there", "back",
}

// Numbers in each place of each word, and what is none there.
func TestP311Numbers(t *testing.T) {
	for _, l := range some {
		parts, at := strings.Fields(l.text), 0
		for i, kind := range forms[l.x.Word] {
			if kind == 'b' {
				continue
			}
			if at++; kind != 'n' {
				continue
			}
			with := slices.Clone(parts)
			for text, n := range numbers {
				with[i+1] = text
				want := step(l.x.Word, slices.Clone(l.x.N), l.x.S...)
				want.N[at-1] = n
				is(t, strings.Join(with, " "), want)
			}
			for _, text := range noNumbers {
				with[i+1] = text
				isNot(t, strings.Join(with, " "), api.ErrForm)
			}
		}
	}
}

// Ways there and back, and others, in each word that has one.
func TestP311Ways(t *testing.T) {
	for _, l := range some {
		if parts := forms[l.x.Word]; parts == "" || parts[0] != 'w' {
			continue
		}
		parts := strings.Fields(l.text)
		for n, way := range []string{"there", "back"} {
			parts[1] = way
			want := step(l.x.Word, slices.Clone(l.x.N), l.x.S...)
			want.N[0] = n
			is(t, strings.Join(parts, " "), want)
		}
		for _, way := range []string{"There", "THERE", "Back", "BACK", "ther", "her", "here", "theree", "bac", "ack", "backs", "0", "1", "2", "-", "-1", "00", "forth", "thereback", "there,", "t", "b", "ba ck"} {
			parts[1] = way
			isNot(t, strings.Join(parts, " "), api.ErrForm)
		}
	}
}

// Bytes of each number, of none, of several, and what is none.
func TestP311Bytes(t *testing.T) {
	for n := range 256 {
		two := fmt.Sprintf("%02x", n)
		is(t, "submit 1 "+two, step("submit", []int{1}, string([]byte{byte(n)})))
		is(t, "forge back 1 00"+two+"ff", step("forge", []int{1, 1}, string([]byte{0, byte(n), 255})))
		if upper := strings.ToUpper(two); upper != two {
			isNot(t, "submit 1 "+upper, api.ErrForm)
			isNot(t, "submit 1 00"+upper, api.ErrForm)
		}
		// Any other byte is no digit, wherever it is.
		c := string([]byte{byte(n)})
		if strings.Contains("0123456789abcdef ", c) {
			continue
		}
		for _, s := range []string{c + "0", "0" + c, c + c, "00" + c + "0", "000" + c, c + "000"} {
			isNot(t, "submit 1 "+s, api.ErrForm)
			isNot(t, "forge there 1 "+s, api.ErrForm)
		}
	}
	for _, s := range []string{"0", "6", "f", "000", "00f", "fffff", "0000000", "-0", "--", "-00", "00-", "0-", "- -", "- 00", "00 -", "00 00", "0 0", "0x00", "", "there", "0g", "AB", "aB", "\"\"", "none"} {
		isNot(t, "submit 1 "+s, api.ErrForm)
		isNot(t, "forge there 1 "+s, api.ErrForm)
	}
	is(t, "submit 1 -", step("submit", []int{1}, ""))
	is(t, "submit 1 00", step("submit", []int{1}, "\x00"))
	is(t, "submit 1 0123456789abcdef", step("submit", []int{1}, "\x01\x23\x45\x67\x89\xab\xcd\xef"))
	is(t, "submit 1 0f", step("submit", []int{1}, "\x0f"))
	is(t, "forge there 1 f00f", step("forge", []int{0, 1}, "\xf0\x0f"))
}

// A line has at most 4000 bytes, whatever they are: that is told ahead of all else.
func TestP311Big(t *testing.T) {
	for _, s := range []string{"clock", "tick 1", " tick  1 ", "submit 10 " + strings.Repeat("ab", 1995), "forge there 1 " + strings.Repeat("00", 1993)} {
		x, e := parsed(s)
		if e != api.OK {
			t.Fatalf("%q", s)
		}
		blanks := strings.Repeat(" ", 4000-len(s))
		is(t, s+blanks, x)
		is(t, blanks+s, x)
		is(t, blanks[len(blanks)/2:]+s+blanks[:len(blanks)/2], x)
		isNot(t, " "+s+blanks, api.ErrBig)
		isNot(t, blanks+s+" ", api.ErrBig)
		isNot(t, blanks+s+"\n", api.ErrBig)
	}
	for _, s := range []string{"", " ", "x", "tick", "tick x", "\x00", "\xff", "submit 1 0", "tick 1 ", "submit 1 -", "submit 1 00"} {
		if _, e := parsed(s); e != api.OK {
			isNot(t, s+strings.Repeat(" ", 4000-len(s)), api.ErrForm)
		}
		for _, other := range []string{" ", "0", "x", "\x00", "\xff", "ä"} {
			for _, n := range []int{4001, 4002, 8000, 65536, 1 << 20} {
				isNot(t, s+strings.Repeat(other, n), api.ErrBig)
			}
		}
	}
	isNot(t, strings.Repeat("x", 4000), api.ErrForm)
	isNot(t, strings.Repeat("x", 4001), api.ErrBig)
	isNot(t, "submit 1 "+strings.Repeat("0", 3991), api.ErrForm)
	isNot(t, "submit 10 "+strings.Repeat("0", 3991), api.ErrBig)
}

// Text has no noughts ahead, and one blank between each two.
func TestP311Text(t *testing.T) {
	for _, l := range some {
		parts := strings.Fields(l.text)
		for i := range parts {
			if n, err := strconv.Atoi(parts[i]); err == nil && forms[l.x.Word][i-1] == 'n' {
				parts[i] = fmt.Sprintf("%010d", n)
			}
		}
		x, e := line.Parse("   " + strings.Join(parts, "  ") + " ")
		if s := x.Text(); e != api.OK || s != l.text {
			t.Errorf("%q, not %q", s, l.text)
		}
	}
	for _, n := range numbers {
		for _, x := range []line.Step{step("tick", []int{n}), step("net", []int{1, n}), step("session", []int{1, 2, n, 3, 4, 5}), step("turn", []int{0, 0, 0, 0, n})} {
			if s := x.Text(); s != written(x) || !strings.Contains(s+" ", fmt.Sprintf(" %d ", n)) {
				t.Errorf("%+v: %q", x, s)
			}
		}
	}
	for n := range 256 {
		b := string([]byte{byte(n), 0, 255 - byte(n)})
		if s := step("forge", []int{1, 3}, b).Text(); s != fmt.Sprintf("forge back 3 %x", b) {
			t.Errorf("%q: %q", b, s)
		}
	}
}

// noLine holds it that Steps have no Text.
func noLine(t *testing.T, l ...line.Step) {
	t.Helper()
	for _, x := range l {
		if s := x.Text(); s != "" {
			t.Errorf("%.80s: %.60q", fmt.Sprintf("%+v", x), s)
		}
	}
}

// Steps that no line is have no Text.
func TestP311NoText(t *testing.T) {
	noLine(t, line.Step{}, step("", []int{1}), step("", nil, "a"), step("nothing", nil), step("Tick", []int{1}), step("tick ", []int{1}), step(" tick", []int{1}), step("tic", []int{1}), step("tick 1", nil), step("clock ", nil), step("there", nil), step("\xff", nil))
	for _, l := range some {
		x := l.x
		noLine(t, step(strings.ToUpper(x.Word), x.N, x.S...), step(x.Word+"x", x.N, x.S...), step(x.Word+" ", x.N, x.S...), step(x.Word[1:], x.N, x.S...), step("", x.N, x.S...))
		// Of too many, and too few.
		for _, n := range []int{0, 1, -1, 4294967296, math.MinInt, math.MaxInt} {
			noLine(t, step(x.Word, append(slices.Clone(x.N), n), x.S...), step(x.Word, append([]int{n}, x.N...), x.S...))
		}
		for _, s := range []string{"", "a", "-", "\x00", " "} {
			noLine(t, step(x.Word, x.N, append(slices.Clone(x.S), s)...), step(x.Word, x.N, append([]string{s}, x.S...)...))
		}
		noLine(t, step(x.Word, slices.Repeat([]int{1}, 9999), x.S...), step(x.Word, x.N, slices.Repeat([]string{""}, 9999)...))
		for i := range x.N {
			noLine(t, step(x.Word, x.N[:i], x.S...), step(x.Word, x.N[i+1:], x.S...), step(x.Word, x.N[:i], append(slices.Clone(x.S), "1")...))
		}
		for i := range x.S {
			noLine(t, step(x.Word, x.N, x.S[:i]...), step(x.Word, append(slices.Clone(x.N), 0), x.S[:i]...))
		}
	}
}

// Steps of numbers that are none, or ways that are neither, have no Text.
func TestP311NoNumbers(t *testing.T) {
	for _, l := range some {
		parts := strings.ReplaceAll(forms[l.x.Word], "b", "")
		for i := range l.x.N {
			for _, n := range []int{-1, -2, -4294967296, -4294967295, 4294967296, 4294967297, 1 << 33, 1 << 62, math.MinInt, math.MinInt + 1, math.MaxInt} {
				x := step(l.x.Word, slices.Clone(l.x.N), l.x.S...)
				x.N[i] = n
				noLine(t, x)
			}
			for n := 2; n < 300 && parts[i] == 'w'; n++ {
				x := step(l.x.Word, slices.Clone(l.x.N), l.x.S...)
				x.N[i] = n
				noLine(t, x)
				x.N[i] = 4294967296 - n
				noLine(t, x)
			}
		}
	}
}

// Steps of so many bytes that a line would have more than 4000 have no Text.
func TestP311NoBytes(t *testing.T) {
	for _, x := range []struct {
		x    line.Step
		head string
	}{
		{step("submit", []int{1}), "submit 1 "}, {step("submit", []int{10}), "submit 10 "}, {step("submit", []int{4294967295}), "submit 4294967295 "},
		{step("forge", []int{0, 1}), "forge there 1 "}, {step("forge", []int{1, 1}), "forge back 1 "}, {step("forge", []int{1, 10}), "forge back 10 "},
	} {
		most := (4000 - len(x.head)) / 2
		for _, n := range []int{most - 1, most} {
			b := strings.Repeat("\xa5", n)
			y := step(x.x.Word, x.x.N, b)
			if s := y.Text(); s != x.head+strings.Repeat("a5", n) {
				t.Errorf("%s of %d: %.60q", x.head, n, s)
			}
			is(t, y.Text(), y)
		}
		for _, n := range []int{most + 1, most + 2, 2000, 2001, 3999, 4000, 4001, 65535, 1 << 20} {
			noLine(t, step(x.x.Word, x.x.N, strings.Repeat("\xa5", n)))
		}
	}
}

// All words, rising, in memory of their own.
func TestP311All(t *testing.T) {
	for range 3 {
		l := line.Words()
		if !slices.Equal(l, words) {
			t.Fatalf("%q", l)
		}
		for i := range l[:cap(l)] {
			l[:cap(l)][i] = "spoilt"
		}
	}
	for _, l := range some {
		is(t, l.text, l.x)
	}
}

// What a Step has is not changed, nor what is behind it, and no two share any.
func TestP311Memory(t *testing.T) {
	for _, l := range some {
		x, _ := line.Parse(l.text)
		y, _ := line.Parse(l.text)
		for i := range x.N[:cap(x.N)] {
			x.N[:cap(x.N)][i] = -7
		}
		for i := range x.S[:cap(x.S)] {
			x.S[:cap(x.S)][i] = "spoilt"
		}
		if z, _ := line.Parse(l.text); !same(y, l.x) || !same(z, l.x) {
			t.Errorf("%q: %+v %+v", l.text, y, z)
		}
		n := append(append([]int{-3}, l.x.N...), -4, -5)
		s := append(append([]string{"ahead"}, l.x.S...), "behind")
		z := line.Step{Word: l.x.Word, N: n[1 : 1+len(l.x.N)], S: s[1 : 1+len(l.x.S)]}
		if z.Text() != l.text || z.Text() != l.text || !same(z, l.x) {
			t.Errorf("%+v", z)
		}
		if n[0] != -3 || n[len(n)-2] != -4 || n[len(n)-1] != -5 || s[0] != "ahead" || s[len(s)-1] != "behind" {
			t.Errorf("%v %q", n, s)
		}
	}
}

// alphabet are bytes of which lines are, and some others.
const alphabet = "   0123456789abcdef-theresubmitforgexyzTAB\t\n\x00\xff+"

// anyPart is one of a kind, or sometimes of another one.
func anyPart(rng *rand.Rand, kind rune) string {
	if rng.Intn(25) == 0 {
		kind = []rune("nwb")[rng.Intn(3)]
	}
	switch kind {
	case 'w':
		return []string{"there", "back"}[rng.Intn(2)]
	case 'b':
		b := make([]byte, rng.Intn(8))
		rng.Read(b)
		if len(b) == 0 {
			return "-"
		}
		return hex.EncodeToString(b)
	}
	n := rng.Uint64() >> (32 + rng.Intn(32))
	if rng.Intn(20) == 0 {
		n = 4294967295 + uint64(rng.Intn(3))
	}
	return fmt.Sprintf("%0*d", rng.Intn(12)-1, n)
}

// anyText is a line, or nearly one.
func anyText(rng *rand.Rand) string {
	word := words[rng.Intn(len(words))]
	s := strings.Repeat(" ", rng.Intn(3)) + word
	for _, kind := range forms[word] {
		s += strings.Repeat(" ", 1+rng.Intn(3)*rng.Intn(2)) + anyPart(rng, kind)
	}
	s += strings.Repeat(" ", rng.Intn(3))
	for range max(0, rng.Intn(6)-3) {
		i, c := rng.Intn(len(s)+1), alphabet[rng.Intn(len(alphabet))]
		switch {
		case rng.Intn(2) == 0:
			s = s[:i] + string([]byte{c}) + s[i:]
		case i < len(s):
			s = s[:i] + s[i+1:]
		}
	}
	return s
}

// Any texts are read as the document's sentences say.
func TestP311Run(t *testing.T) {
	rng := rand.New(rand.NewSource(31))
	lines, none := map[string]int{}, 0
	for range 60000 {
		s := anyText(rng)
		x, e := parsed(s)
		if e != api.OK {
			isNot(t, s, e)
			none++
			continue
		}
		is(t, s, x)
		lines[x.Word]++
	}
	for range 20000 {
		b := make([]byte, rng.Intn(30))
		for i := range b {
			if b[i] = alphabet[rng.Intn(len(alphabet))]; rng.Intn(9) == 0 {
				b[i] = byte(rng.Intn(256))
			}
		}
		if _, e := parsed(string(b)); e != api.OK {
			isNot(t, string(b), e)
		}
	}
	for _, word := range words {
		if lines[word] < 500 || none < 5000 {
			t.Errorf("%v, %d are none", lines, none)
		}
	}
}

// Any Steps have the Text that the document's sentences say.
func TestP311Steps(t *testing.T) {
	rng := rand.New(rand.NewSource(32))
	lines, none := 0, 0
	for range 60000 {
		x, e := parsed(anyText(rng))
		if e != api.OK {
			x = step(words[rng.Intn(len(words))], []int{rng.Intn(3)}, "a")
		}
		switch rng.Intn(8) {
		case 0:
			x.N = append(x.N, rng.Intn(3))
		case 1:
			x.N = x.N[:rng.Intn(len(x.N)+1)]
		case 2:
			x.S = x.S[:rng.Intn(len(x.S)+1)]
		case 3:
			if len(x.N) > 0 {
				x.N[rng.Intn(len(x.N))] = int(rng.Uint64()>>rng.Intn(64)) - rng.Intn(4)
			}
		case 4:
			x.Word = words[rng.Intn(len(words))]
		}
		want := written(x)
		if s := x.Text(); s != want {
			t.Fatalf("%+v: %q, not %q", x, s, want)
		}
		if want == "" {
			none++
		} else {
			lines++
		}
	}
	if lines < 10000 || none < 10000 {
		t.Errorf("%d are lines, %d not", lines, none)
	}
}

// again holds it that a text that is a line is read, as the same Step, from its Text.
func again(t *testing.T, s string) bool {
	t.Helper()
	x, e := line.Parse(s)
	if e != api.OK {
		return false
	}
	text := x.Text()
	y, e := line.Parse(text)
	if e != api.OK || !same(x, y) || y.Text() != text || len(text) > len(s) {
		t.Fatalf("%q: %+v, and of %q %+v %d", s, x, text, y, e)
	}
	return true
}

// A Step that was read is read from its Text.
func TestP312Back(t *testing.T) {
	for _, l := range some {
		if !again(t, l.text) || !again(t, "  "+strings.ReplaceAll(l.text, " ", "    ")+" ") {
			t.Errorf("%q", l.text)
		}
	}
	for text := range numbers {
		if !again(t, "tick "+text) || !again(t, "turn back "+text+" "+text+" "+text+" "+text) || !again(t, "submit "+text+" -") {
			t.Errorf("%q", text)
		}
	}
	for _, n := range []int{1, 2, 1000, 1990, 1994, 1995} {
		if !again(t, "submit 10 "+strings.Repeat("5a", n)) || !again(t, fmt.Sprintf("submit %010d %s", 7, strings.Repeat("c3", min(n, 1991)))) {
			t.Errorf("%d bytes", n)
		}
	}
	rng := rand.New(rand.NewSource(33))
	count := 0
	for range 40000 {
		if again(t, anyText(rng)) {
			count++
		}
	}
	if count < 10000 {
		t.Errorf("%d lines", count)
	}
}
