package large

import (
	"slices"
	"strconv"
	"strings"

	"arithmancy/api"
)

// Decimal digits are written and read in groups: as many as fit a word.
const (
	groupDigits = 9
	groupValue  = 1000000000
)

// Text returns the digits of a number.
func Text(a api.Int) (string, api.Errno) {
	if !Valid(a) {
		return "", api.ErrForm
	}
	groups := groupsOf(a.Words)
	var s strings.Builder
	if a.Neg {
		s.WriteByte('-')
	}
	for i, g := range groups {
		digits := strconv.Itoa(int(g))
		if i > 0 {
			s.WriteString(strings.Repeat("0", groupDigits-len(digits)))
		}
		s.WriteString(digits)
	}
	return s.String(), api.OK
}

// groupsOf returns the groups of decimal digits, the highest one first.
func groupsOf(a []uint32) []uint32 {
	left := clone(a)
	var groups []uint32
	for len(left) > 0 {
		groups = append(groups, divideByWord(left, groupValue))
		left = trim(left)
	}
	if len(groups) == 0 {
		groups = []uint32{0}
	}
	slices.Reverse(groups)
	return groups
}

// Parse returns the number that digits mean.
func Parse(s string) (api.Int, api.Errno) {
	if len(s) > api.MaxText {
		return api.Int{}, api.ErrParse
	}
	digits, neg := strings.CutPrefix(s, "-")
	if !decimal(digits) || neg && digits == "0" {
		return api.Int{}, api.ErrParse
	}
	return number(neg, readGroups(digits))
}

// decimal reports whether s is the digits of a natural number.
func decimal(s string) bool {
	for i := range len(s) {
		if s[i] < '0' || s[i] > '9' {
			return false
		}
	}
	return s != "" && (s[0] != '0' || len(s) == 1)
}

// readGroups returns the words of the number that digits mean.
func readGroups(digits string) []uint32 {
	words := make([]uint32, 0, len(digits)/groupDigits+1)
	for len(digits) > 0 {
		n := (len(digits)-1)%groupDigits + 1
		carry := uint64(0)
		for _, d := range []byte(digits[:n]) {
			carry = 10*carry + uint64(d-'0')
		}
		for i, w := range words {
			t := uint64(w)*groupValue + carry
			words[i] = uint32(t)
			carry = t >> wordBits
		}
		if carry != 0 {
			words = append(words, uint32(carry))
		}
		digits = digits[n:]
	}
	return words
}
