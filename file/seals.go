package file

import (
	"strconv"
	"strings"

	"oyez/api"
)

// sums are both of a text.
type sums [2]int

// sumsOf returns the sums of a body.
func sumsOf(body string) sums {
	var s sums
	for n := range len(body) {
		b := int(body[n])
		s[0] = (s[0] + b) % Prime
		s[1] = (s[1] + (n+1)*b) % Prime
	}
	return s
}

// seal returns the line by which a body with these sums is sealed.
func seal(s sums) string {
	return joined("seal", strconv.Itoa(s[0]), strconv.Itoa(s[1])) + "\n"
}

// isBody reports whether a text can be sealed.
func isBody(text string) bool {
	return len(text) <= MaxText && strings.HasSuffix(text, "\n")
}

// unsealed returns the body of a text that has the form of a sealed one, and what its last line says that its sums are.
func unsealed(text string) (string, sums, api.Errno) {
	if len(text) > MaxText+20 {
		return "", sums{}, api.ErrLong
	}
	start := strings.LastIndexByte(strings.TrimSuffix(text, "\n"), '\n') + 1
	body, last := text[:start], text[start:]
	s, is := sealed(last)
	if !is || !isBody(body) {
		return "", sums{}, api.ErrForm
	}
	return body, s, api.OK
}

// sealed returns the sums that a line says, and whether it is a seal.
func sealed(line string) (sums, bool) {
	words := strings.Split(strings.TrimSuffix(line, "\n"), " ")
	if len(words) != 3 {
		return sums{}, false
	}
	var s sums
	for n := range len(s) {
		s[n], _ = number(words[n+1], Prime-1)
	}
	// A line of another form is not the seal of the numbers that were found in it.
	return s, seal(s) == line
}

// damaged returns the place of the one byte that keeps a body from having the sums of its seal, what that byte must be, and
// whether there is such a byte. No two places can be it: the second sum errs as much as the first one does, times the place.
func damaged(body string, sealed sums) (int, byte, bool) {
	had := sumsOf(body)
	first, second := minus(sealed[0], had[0]), minus(sealed[1], had[1])
	// The last byte of a body is a line feed, whatever the sums are.
	for at := range len(body) - 1 {
		right := (int(body[at]) + first) % Prime
		if (at+1)*first%Prime == second && right <= 255 {
			return at, byte(right), true
		}
	}
	return 0, 0, false
}

// minus returns how much one sum is more than another one.
func minus(a, b int) int { return (a - b + Prime) % Prime }
