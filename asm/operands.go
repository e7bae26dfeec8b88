package asm

import (
	"math"
	"strings"
	"unicode/utf8"

	"hearth/api"
)

// What operands are written with.
const (
	textSign  = `"`
	charSign  = `'`
	escape    = `\`
	digits    = "0123456789abcdef" // of hexadecimal numbers
	floDigits = 16
	digitBits = 4
)

// numbers are the decimal numbers of just n words.
func numbers(operands []string, n int) []int {
	want(len(operands) == n)
	list := make([]int, n)
	for i, word := range operands {
		list[i] = decimal(word)
	}
	return list
}

// decimal is the number that a word of digits tells.
func decimal(word string) int {
	want(word == "0" || word != "" && word[0] != '0')
	n := 0
	for _, r := range word {
		want(isDigit(r))
		d := int(r - '0')
		want(n <= (math.MaxInt-d)/10)
		n = 10*n + d
	}
	return n
}

func fixnum(word string) int {
	rest, below := strings.CutPrefix(word, "-")
	n := decimal(rest)
	if below {
		want(n > 0)
		n = -n
	}
	want(n >= api.LeastFix && n <= api.MostFix)
	return n
}

// floBits is what the digits of a float tell.
func floBits(word string) int {
	rest, begins := strings.CutPrefix(word, floBegins)
	want(begins && len(rest) == floDigits)
	return hexadecimal(rest)
}

// hexadecimal is the number that digits tell; the highest of sixteen bring its sign.
func hexadecimal(word string) int {
	n := 0
	for _, r := range word {
		d := strings.IndexRune(digits, r)
		want(d >= 0)
		n = n<<digitBits | d
	}
	return n
}

// charNumber is the number of a char that is told by it, or by its rune.
func charNumber(word string) int {
	if !strings.HasPrefix(word, charSign) {
		return decimal(word)
	}
	b := unquoted(word, charSign)
	want(utf8.Valid(b) && utf8.RuneCount(b) == 1)
	r, _ := utf8.DecodeRune(b)
	return int(r)
}

// immediateCode is the code of an immediate that is told by it, or by its word.
func immediateCode(word string) int {
	for code, name := range immediates {
		if name == word {
			return code
		}
	}
	return decimal(word)
}

// unquoted are the bytes of a word, which has to be a quote of that sign.
func unquoted(word, sign string) []byte {
	want(strings.HasPrefix(word, sign))
	rest := word[len(sign) : len(word)-len(sign)]
	var b []byte
	for {
		ahead, behind, more := strings.Cut(rest, escape)
		b = append(b, ahead...)
		if !more {
			return b
		}
		var one byte
		one, rest = unescaped(behind)
		b = append(b, one)
	}
}

// unescaped is the byte that stands behind an escape, and what comes behind that.
func unescaped(text string) (byte, string) {
	want(text != "")
	switch text[0] {
	case '\\', '"', '\'':
		return text[0], text[1:]
	case 'n':
		return '\n', text[1:]
	case 't':
		return '\t', text[1:]
	}
	want(text[0] == 'x' && len(text) > 2)
	return byte(hexadecimal(text[1:3])), text[3:]
}
