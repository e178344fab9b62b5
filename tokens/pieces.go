package tokens

import "strings"

// The kinds of tokens, and of what is none.
const (
	nothing uint8 = iota
	word
	number
	signs
)

// piece is something of which a text may be made.
type piece struct {
	kind uint8
	size func(s string) int // how many bytes of it the text has at its beginning, 0 if something else stands there
}

// pieces are all of them. No two begin alike.
func pieces() [5]piece {
	return [...]piece{{nothing, blankSize}, {nothing, commentSize}, {word, wordSize}, {number, numberSize}, {signs, signsSize}}
}

func blankSize(s string) int { return run(s, isBlank) }

func commentSize(s string) int {
	if !strings.HasPrefix(s, "#") {
		return 0
	}
	comment, _, _ := strings.Cut(s, "\n")
	return len(comment)
}

func wordSize(s string) int {
	if s == "" || !isLetter(s[0]) {
		return 0
	}
	return run(s, isOfWord)
}

func numberSize(s string) int {
	ahead := run(s, isDigit)
	if ahead == 0 || !strings.HasPrefix(s[ahead:], ".") {
		return ahead
	}
	behind := run(s[ahead+1:], isDigit)
	if behind == 0 {
		// A point is of the number only with a digit behind it.
		return ahead
	}
	return ahead + 1 + behind
}

// allSigns has the longer ones first.
var allSigns = [...]string{"<=", ">=", "+", "-", "*", "/", ",", ":", ";", "=", "(", ")", "[", "]"}

func signsSize(s string) int {
	for _, sign := range allSigns {
		if strings.HasPrefix(s, sign) {
			return len(sign)
		}
	}
	return 0
}

// run is how many bytes at the text's beginning are such ones.
func run(s string, such func(c byte) bool) int {
	for i := range len(s) {
		if !such(s[i]) {
			return i
		}
	}
	return len(s)
}

func isBlank(c byte) bool { return c == ' ' || c == '\t' || c == '\n' || c == '\r' }

func isLetter(c byte) bool { return c >= 'a' && c <= 'z' || c >= 'A' && c <= 'Z' }

func isDigit(c byte) bool { return c >= '0' && c <= '9' }

func isOfWord(c byte) bool { return isLetter(c) || isDigit(c) || c == '_' }
