package asm

// lineEnd is what stands behind each line.
const lineEnd = "\n"

// wrong is what a panic carries from a wrong part of a line up to where lines are read. The type is nobody else's, so no other panic is taken for one.
type wrong struct{}

// want gives the line up, unless what it asks for holds.
func want(holds bool) {
	if !holds {
		panic(wrong{})
	}
}

// caught tells whether a panic was there, and gave a line up.
func caught(r any) bool {
	if r == nil {
		return false
	}
	if _, ok := r.(wrong); ok {
		return true
	}
	panic(r)
}

// words cuts a line into its words; a quote is one with its signs.
func words(line string) []string {
	var list []string
	var sign rune // with which the quote began
	passed := false
	rest := line

between:
	for i, r := range rest {
		switch {
		case r == ';':
			return list
		case r == '"' || r == '\'':
			rest, sign = rest[i:], r
			goto quote
		case !endsWord(r):
			rest = rest[i:]
			goto word
		}
	}
	return list

word:
	for i, r := range rest {
		if endsWord(r) {
			list, rest = append(list, rest[:i]), rest[i:]
			goto between
		}
	}
	return append(list, rest)

quote:
	for i, r := range rest[1:] {
		switch {
		case passed:
			passed = false
		case r == '\\':
			passed = true
		case r == sign:
			list, rest = append(list, rest[:i+2]), rest[i+2:]
			goto behind
		}
	}
	want(false)

behind:
	want(rest == "" || endsWord(rune(rest[0])))
	goto between
}

// endsWord tells whether a rune ends the word ahead of it.
func endsWord(r rune) bool { return r == ' ' || r == '\t' || r == ';' }

// isName tells whether a word is one that a label may have.
func isName(word string) bool {
	for i, r := range word {
		if !isLetter(r) && (i == 0 || !isDigit(r)) {
			return false
		}
	}
	return word != ""
}

func isLetter(r rune) bool { return r >= 'A' && r <= 'Z' || r >= 'a' && r <= 'z' || r == '_' }

func isDigit(r rune) bool { return r >= '0' && r <= '9' }
