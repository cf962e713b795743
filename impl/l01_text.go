package impl

import (
	"strconv"
	"strings"
)

const maxNameBytes = 8

// The document's bound on padding: it keeps a wrong width from filling the memory.
const maxPadded = 2000

func FormatInt(n int) string { return strconv.Itoa(n) }

func ParseInt(s string) (int, bool) {
	n, err := strconv.Atoi(s)
	// Atoi also accepts a plus sign, leading zeros and -0, which FormatInt never writes.
	if err != nil || FormatInt(n) != s {
		return 0, false
	}
	return n, true
}

func isDigit(r rune) bool { return '0' <= r && r <= '9' }

func isLetter(r rune) bool { return 'a' <= r && r <= 'z' }

func IsDigits(s string) bool {
	for _, r := range s {
		if !isDigit(r) {
			return false
		}
	}
	return s != ""
}

func IsName(s string) bool {
	if s == "" || len(s) > maxNameBytes {
		return false
	}
	for i, r := range s {
		if !isLetter(r) && (i == 0 || !isDigit(r)) {
			return false
		}
	}
	return true
}

// SplitAny looks at bytes, not at runes: a separator may be a part of a longer rune or of no rune at all.
func SplitAny(s string, by string) []string {
	var cuts [256]bool
	for i := range len(by) {
		cuts[by[i]] = true
	}
	var parts []string
	first := 0
	for i := range len(s) {
		if cuts[s[i]] {
			parts = append(parts, s[first:i])
			first = i + 1
		}
	}
	return append(parts, s[first:])
}

func SplitLines(s string) []string {
	lines := SplitAny(s, "\n")
	last := len(lines) - 1
	if lines[last] == "" {
		return lines[:last]
	}
	return lines
}

func Join(l []string, by string) string { return joinWith(by, l...) }

func joinWith(by string, parts ...string) string {
	return strings.Join(parts, by)
}

func PadZeros(s string, n int) string {
	if len(s) >= n || n > maxPadded {
		return s
	}
	return joinWith("", strings.Repeat("0", n-len(s)), s)
}
