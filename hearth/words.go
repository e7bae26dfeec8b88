package hearth

import (
	"strconv"
	"strings"
)

// mostLetters is how long a name is at most.
const mostLetters = 16

// isName tells whether a program may have this name.
func isName(word string) bool {
	return word != "" && len(word) <= mostLetters && consists(word, 'a', 'z')
}

// consists tells whether a word has runes from first to last alone.
func consists(word string, first, last rune) bool {
	for _, r := range word {
		if r < first || r > last {
			return false
		}
	}
	return true
}

// number reads a number; false: the word is none.
func number(word string) (int, bool) {
	digits := strings.TrimPrefix(word, "-")
	if digits == "" || !consists(digits, '0', '9') {
		return 0, false
	}
	if digits[0] == '0' && word != "0" {
		return 0, false
	}
	n, err := strconv.Atoi(word)
	if err != nil { // it is out of range
		return 0, false
	}
	return n, true
}

// naturals reads at least so many numbers and at most so many, all of them from 0 on; false: the words are not that.
func naturals(words []string, least, most int) ([]int, bool) {
	if len(words) < least || len(words) > most {
		return nil, false
	}
	list := make([]int, len(words))
	for i, word := range words {
		n, right := number(word)
		if !right || n < 0 {
			return nil, false
		}
		list[i] = n
	}
	return list, true
}
