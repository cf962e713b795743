package tests

import (
	"math"
	"math/big"
	"math/rand"
	"slices"
	"strings"
	"testing"

	"loop.example/g00811/impl"
)

// notUTF8 are strings with bytes that belong to no rune.
var notUTF8 = []string{"\xff", "\x80", "\xc3", "a\xff", "1\x80", "\xed\xa0\x80", "\xff\xfe"}

// sampleInts are the ends of the range, the numbers around 0 and around every power of ten and of two, and some between.
func sampleInts() []int {
	l := []int{math.MinInt, math.MinInt + 1, math.MaxInt - 1, math.MaxInt}
	for n := -1100; n <= 1100; n++ {
		l = append(l, n)
	}
	for k := range 63 {
		n := 1 << k
		l = append(l, n-1, n, n+1, -n-1, -n, -n+1)
	}
	for k, n := 0, 1; k < 19; k, n = k+1, n*10 {
		l = append(l, n-1, n, n+1, -n-1, -n, -n+1)
	}
	random := rand.New(rand.NewSource(1))
	for range 2000 {
		l = append(l, int(random.Uint64())>>random.Intn(64))
	}
	return l
}

func TestFormatInt(t *testing.T) {
	cases := map[int]string{
		0: "0", 1: "1", -1: "-1", 9: "9", 10: "10", -10: "-10", 100: "100", 1000000007: "1000000007",
		math.MaxInt: "9223372036854775807", math.MinInt: "-9223372036854775808",
	}
	for n, want := range cases {
		if got := impl.FormatInt(n); got != want {
			t.Errorf("FormatInt(%d) = %q, want %q", n, got, want)
		}
	}
	for _, n := range sampleInts() {
		if got, want := impl.FormatInt(n), big.NewInt(int64(n)).String(); got != want {
			t.Errorf("FormatInt(%d) = %q, want %q", n, got, want)
		}
	}
}

// P1: an int is recovered from its text.
func TestIntIsRecoveredFromItsText(t *testing.T) {
	for _, n := range sampleInts() {
		if got, ok := impl.ParseInt(impl.FormatInt(n)); got != n || !ok {
			t.Errorf("ParseInt(FormatInt(%d)) = %d, %v", n, got, ok)
		}
	}
}

func TestParseIntRefusesWhatFormatIntNeverWrites(t *testing.T) {
	bad := []string{
		"", "-", "+", "--1", "+1", "+0", "-0", "00", "01", "007", "-01", "-00", "1-", "1-1",
		" 1", "1 ", "\n1", "1\n", "1 2", "\t1", "1.0", "1e3", "1,000", "1_000", "0x1", "0b1", "0o7", "x", "1x", "x1",
		"9223372036854775808", "-9223372036854775809", "10000000000000000000", "99999999999999999999", "-99999999999999999999",
		"18446744073709551616", "18446744073709551617", "-18446744073709551616",
		"09223372036854775807", "-09223372036854775808",
		strings.Repeat("9", 5000), "-" + strings.Repeat("9", 5000), strings.Repeat("0", 5000),
		"\u0661", "\uff11", "1\u0661", "\u22121", "1\x00", "\x001",
	}
	for _, s := range append(bad, notUTF8...) {
		if n, ok := impl.ParseInt(s); n != 0 || ok {
			t.Errorf("ParseInt(%q) = %d, %v, want 0, false", s, n, ok)
		}
	}
}

// Every text of up to four of these bytes is an int's text exactly if FormatInt writes it.
func TestParseIntOnAllShortTexts(t *testing.T) {
	written := map[string]int{}
	for n := -9999; n <= 9999; n++ {
		written[big.NewInt(int64(n)).String()] = n
	}
	forAllTexts("-+0129 ", 4, func(s string) {
		want, wantOk := written[s]
		if got, ok := impl.ParseInt(s); got != want || ok != wantOk {
			t.Errorf("ParseInt(%q) = %d, %v, want %d, %v", s, got, ok, want, wantOk)
		}
	})
}

// forAllTexts calls look with every string of at most most bytes of alphabet.
func forAllTexts(alphabet string, most int, look func(string)) {
	level := []string{""}
	for range most + 1 {
		var next []string
		for _, s := range level {
			look(s)
			for i := range len(alphabet) {
				next = append(next, s+alphabet[i:i+1])
			}
		}
		level = next
	}
}

// forTextsNearby calls look with every text that has one byte of alphabet more than s, or in the place of one of s, or
// one byte less, and with every beginning and end of s.
func forTextsNearby(s string, alphabet string, look func(string)) {
	for i := range len(s) + 1 {
		for _, b := range strings.Split(alphabet, "") {
			look(s[:i] + b + s[i:])
			if i < len(s) {
				look(s[:i] + b + s[i+1:])
			}
		}
		if i < len(s) {
			look(s[:i] + s[i+1:])
		}
		look(s[:i])
		look(s[i:])
	}
}

func TestIsDigits(t *testing.T) {
	for _, s := range []string{"0", "9", "09", "007", "0123456789", strings.Repeat("5", 3000)} {
		if !impl.IsDigits(s) {
			t.Errorf("IsDigits(%q) is false", s)
		}
	}
	bad := []string{"", "-1", "+1", " 1", "1 ", "1a", "a1", "1\n", "1.0", "/", ":", "\x00", "\u0661", "\uff11", "12\u0663", "\u00b2"}
	for _, s := range append(bad, notUTF8...) {
		if impl.IsDigits(s) {
			t.Errorf("IsDigits(%q) is true", s)
		}
	}
}

func TestIsName(t *testing.T) {
	for _, s := range []string{"a", "z", "x1", "a0", "z9", "abcdefgh", "a1234567", "a0b1c2d3", "robot"} {
		if !impl.IsName(s) {
			t.Errorf("IsName(%q) is false", s)
		}
	}
	bad := []string{
		"", "1", "0a", "1x", "A", "aB", "Z", "_a", "a_b", "a-b", "a b", " a", "a ", "a\n", "`", "{", "a`", "a{", "a/", "a:",
		"abcdefghi", "a12345678", strings.Repeat("a", 3000),
		"\u00e9", "a\u00e9", "\u0430", "\uff41", "a\u0661", "\u212a", "\u017f", "abcdefg\u00e9", "a\x00",
	}
	for _, s := range append(bad, notUTF8...) {
		if impl.IsName(s) {
			t.Errorf("IsName(%q) is true", s)
		}
	}
}

// Each single byte, as the first, an inner and the last one, is judged by the tables of the document.
func TestEveryByteOfDigitsAndNames(t *testing.T) {
	const digits, letters = "0123456789", "abcdefghijklmnopqrstuvwxyz"
	for k := range 256 {
		b := string([]byte{byte(k)})
		digit, letter := strings.Contains(digits, b), strings.Contains(letters, b)
		if impl.IsDigits(b) != digit || impl.IsDigits("1"+b) != digit || impl.IsDigits(b+"1") != digit || impl.IsDigits("1"+b+"1") != digit {
			t.Errorf("IsDigits is wrong for the byte %d", k)
		}
		other := digit || letter
		if impl.IsName(b) != letter || impl.IsName(b+"1") != letter || impl.IsName("a"+b) != other || impl.IsName("a"+b+"a") != other || impl.IsName("abcdefg"+b) != other {
			t.Errorf("IsName is wrong for the byte %d", k)
		}
	}
}

func TestSplitAny(t *testing.T) {
	cases := []struct {
		s, by string
		want  []string
	}{
		{"", "", []string{""}},
		{"", ",", []string{""}},
		{"abc", "", []string{"abc"}},
		{"abc", ",", []string{"abc"}},
		{"a,b c", ", ", []string{"a", "b", "c"}},
		{"a, b", ", ", []string{"a", "", "b"}},
		{",", ",", []string{"", ""}},
		{",a,", ",", []string{"", "a", ""}},
		{",,,", ",", []string{"", "", "", ""}},
		{"a,b;c d", ",; ", []string{"a", "b", "c", "d"}},
		{"a,b", ",,,", []string{"a", "b"}},
		{"a\nb\n", "\n", []string{"a", "b", ""}},
		{"aXbxc", "x", []string{"aXb", "c"}},
		{"a\x00b", "\x00", []string{"a", "b"}},
		{"\xff1\xfe2\xff", "\xff", []string{"", "1\xfe2", ""}},
		{"a\xffb", "\xfe", []string{"a\xffb"}},
		{"a\ufffdb", "\xff", []string{"a\ufffdb"}},
		{"a\u00e9b", "\u00e8", []string{"a", "\xa9b"}},
		{"a\u00e9b", "\u00e9", []string{"a", "", "b"}},
		{"\u00e9,\u00e8", ",", []string{"\u00e9", "\u00e8"}},
	}
	for _, c := range cases {
		if got := impl.SplitAny(c.s, c.by); !slices.Equal(got, c.want) {
			t.Errorf("SplitAny(%q, %q) = %q, want %q", c.s, c.by, got, c.want)
		}
	}
}

// P1: a string is recovered from its parts, and no part contains a separator.
func TestStringIsRecoveredFromItsParts(t *testing.T) {
	random := rand.New(rand.NewSource(2))
	for range 3000 {
		s, by := randomText(random, 40), randomText(random, 3)
		parts := impl.SplitAny(s, by)
		cuts, back := "", parts[0]
		for i := range len(s) {
			if strings.IndexByte(by, s[i]) >= 0 {
				cuts += s[i : i+1]
			}
		}
		if len(parts) != len(cuts)+1 {
			t.Fatalf("SplitAny(%q, %q) has %d parts, want %d", s, by, len(parts), len(cuts)+1)
		}
		for i, p := range parts[1:] {
			back += cuts[i:i+1] + p
		}
		if back != s {
			t.Fatalf("the parts of %q by %q give %q", s, by, back)
		}
		for k := range len(by) {
			for _, p := range parts {
				if strings.IndexByte(p, by[k]) >= 0 {
					t.Fatalf("SplitAny(%q, %q) leaves a separator in %q", s, by, p)
				}
			}
		}
		for k := range len(s) {
			one := s[k : k+1]
			if got := impl.Join(impl.SplitAny(s, one), one); got != s {
				t.Fatalf("splitting and joining %q by %q gives %q", s, one, got)
			}
		}
	}
}

// randomText has up to most bytes, many of them separators, newlines and bytes that are not valid UTF-8.
func randomText(random *rand.Rand, most int) string {
	const bytes = "ab,; \n\n01\x00\xff\xc3\xa9"
	b := make([]byte, random.Intn(most+1))
	for i := range b {
		b[i] = bytes[random.Intn(len(bytes))]
	}
	return string(b)
}

func TestSplitLines(t *testing.T) {
	cases := []struct {
		text string
		want []string
	}{
		{"", nil},
		{"\n", []string{""}},
		{"\n\n", []string{"", ""}},
		{"a", []string{"a"}},
		{"a\n", []string{"a"}},
		{"a\nb", []string{"a", "b"}},
		{"a\nb\n", []string{"a", "b"}},
		{"a\n\nb\n", []string{"a", "", "b"}},
		{"a\n\n", []string{"a", ""}},
		{"\na", []string{"", "a"}},
		{" ", []string{" "}},
		{"a\n ", []string{"a", " "}},
		{"a\r\nb\r", []string{"a\r", "b\r"}},
		{"a\u2028b\vc\fd\u0085e", []string{"a\u2028b\vc\fd\u0085e"}},
		{"\xff\n\x80", []string{"\xff", "\x80"}},
		{"a\x00\nb", []string{"a\x00", "b"}},
	}
	for _, c := range cases {
		if got := impl.SplitLines(c.text); !slices.Equal(got, c.want) {
			t.Errorf("SplitLines(%q) = %q, want %q", c.text, got, c.want)
		}
	}
}

// P1: a text is recovered from its lines; the last newline is the only thing that they do not tell.
func TestTextIsRecoveredFromItsLines(t *testing.T) {
	random := rand.New(rand.NewSource(3))
	for range 3000 {
		s := randomText(random, 20)
		lines := impl.SplitLines(s)
		ended := s
		if s != "" && !strings.HasSuffix(s, "\n") {
			ended += "\n"
		}
		back := ""
		for _, l := range lines {
			if strings.Contains(l, "\n") {
				t.Fatalf("SplitLines(%q) leaves a newline in %q", s, l)
			}
			back += l + "\n"
		}
		if back != ended {
			t.Fatalf("the lines of %q give %q", s, back)
		}
		if again := impl.SplitLines(ended); !slices.Equal(again, lines) {
			t.Fatalf("SplitLines(%q) = %q, and with a last newline %q", s, lines, again)
		}
	}
}

func TestJoin(t *testing.T) {
	cases := []struct {
		l    []string
		by   string
		want string
	}{
		{nil, ",", ""},
		{[]string{}, ",", ""},
		{[]string{""}, ",", ""},
		{[]string{"a"}, ",", "a"},
		{[]string{"a", "b", "c"}, "-", "a-b-c"},
		{[]string{"a", "b", "c"}, "", "abc"},
		{[]string{"a", "b"}, ", ", "a, b"},
		{[]string{"", ""}, ",", ","},
		{[]string{"", "", ""}, "ab", "abab"},
		{[]string{"a,b", "c"}, ",", "a,b,c"},
		{[]string{"\xff", "\x80"}, "\xc3", "\xff\xc3\x80"},
		{[]string{"\u00e9", "\u00e8"}, "\n", "\u00e9\n\u00e8"},
	}
	for _, c := range cases {
		if got := impl.Join(c.l, c.by); got != c.want {
			t.Errorf("Join(%q, %q) = %q, want %q", c.l, c.by, got, c.want)
		}
	}
}

func TestPadZeros(t *testing.T) {
	cases := []struct {
		s    string
		n    int
		want string
	}{
		{"7", 3, "007"},
		{"", 0, ""},
		{"", 1, "0"},
		{"", 3, "000"},
		{"007", 3, "007"},
		{"1234", 3, "1234"},
		{"7", 1, "7"},
		{"7", 0, "7"},
		{"7", -1, "7"},
		{"7", math.MinInt, "7"},
		{"", math.MinInt, ""},
		{"-7", 4, "00-7"},
		{"\u00e9", 3, "0\u00e9"},
		{"\xff", 2, "0\xff"},
		{"7", 1999, strings.Repeat("0", 1998) + "7"},
		{"7", 2000, strings.Repeat("0", 1999) + "7"},
		{"", 2000, strings.Repeat("0", 2000)},
		{"7", 2001, "7"},
		{"", 2001, ""},
		{"7", math.MaxInt, "7"},
		{strings.Repeat("x", 1999), 2000, "0" + strings.Repeat("x", 1999)},
		{strings.Repeat("x", 2000), 2000, strings.Repeat("x", 2000)},
		{strings.Repeat("x", 2500), 2000, strings.Repeat("x", 2500)},
		{strings.Repeat("x", 2500), 2600, strings.Repeat("x", 2500)},
	}
	for _, c := range cases {
		if got := impl.PadZeros(c.s, c.n); got != c.want {
			t.Errorf("PadZeros(%.20q, %d) has %d bytes and begins with %.20q, want %d bytes and %.20q", c.s, c.n, len(got), got, len(c.want), c.want)
		}
	}
}

func TestTextFunctionsLeaveTheirArgumentsAlone(t *testing.T) {
	whole := []string{"a", "b", "c", "d"}
	l := whole[:2]
	if got := impl.Join(l, ","); got != "a,b" {
		t.Errorf("Join = %q", got)
	}
	if !slices.Equal(whole, []string{"a", "b", "c", "d"}) {
		t.Errorf("Join changed its argument to %q", whole)
	}
}

func TestTextResultsAreNewEachTime(t *testing.T) {
	first := impl.SplitAny("a,b,c", ",")
	clear(first[:cap(first)])
	if got := impl.SplitAny("a,b,c", ","); !slices.Equal(got, []string{"a", "b", "c"}) {
		t.Errorf("SplitAny = %q after its last result was changed", got)
	}
	lines := impl.SplitLines("a\nb\n")
	clear(lines[:cap(lines)])
	if got := impl.SplitLines("a\nb\n"); !slices.Equal(got, []string{"a", "b"}) {
		t.Errorf("SplitLines = %q after its last result was changed", got)
	}
}
