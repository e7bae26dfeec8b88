package asm

import (
	"fmt"
	"strconv"
	"strings"
	"testing"
	"unicode/utf8"

	"hearth/api"
)

// decimals are right and wrong decimal numbers.
func decimals() map[string]bool {
	return map[string]bool{
		"0": true, "1": true, "9": true, "10": true, "64": true, "90": true, "100": true, "2097151": true, "2097152": true, "1234567890": true,
		"1152921504606846975": true, "1152921504606846976": true, "9223372036854775799": true, "9223372036854775800": true, "9223372036854775806": true, "9223372036854775807": true,
		"": false, "00": false, "01": false, "000": false, "-0": false, "-1": false, "+1": false, "+0": false, "1_0": false, "1.": false, ".1": false, "1e1": false, "0x1": false, "0b1": false, "0o7": false,
		"a": false, "1a": false, "a1": false, "--1": false, "1-": false, "１": false, "٣": false, "1\x00": false, "\x001": false, "1,0": false, "⁵": false, "1\xff": false,
		"9223372036854775808": false, "9223372036854775809": false, "9223372036854775810": false, "9223372036854775900": false, "10000000000000000000": false, "18446744073709551615": false,
		"18446744073709551616": false, "18446744073709551617": false, "27670116110564327424": false, "99999999999999999999": false, "184467440737095516160": false,
		"100000000000000000000000000000000000000001": false, "09223372036854775807": false, "00000000000000000001": false,
	}
}

// Each place of a plain number takes decimal numbers, and nothing else; whether they are in their range is looked at behind it.
func TestP2503Decimals(t *testing.T) {
	places := map[string]int{"globals %s\n" + head: 1, "func %s 64 0": 1, "func 0 %s 0": 1, "func 0 0 %s": 1}
	for op := range 76 {
		if name := plainName(op); name != "" && strings.ContainsRune("nicj", rune(plainSort(op))) {
			places[head+name+" %s"] = 2
		}
	}
	for place, line := range places {
		for word, right := range decimals() {
			text := fmt.Sprintf(place, word)
			if (strings.Contains(place, "jump") || strings.Contains(place, "branch")) && isName(word) {
				continue
			}
			if _, got, errno := Assemble(text); right && errno == api.ErrLine || !right && (errno != api.ErrLine || got != line) {
				t.Errorf("P2503: %q: line %d, %v", text, got, errno)
			}
			plainly(t, "P2503", text)
		}
		misshapen(t, "P2503", fmt.Sprintf(place, "9223372036854775807"))
	}
	for _, n := range []int{0, 1, 7, 8, 9, 10, 63, 64, 99, 100, 127, 128, 255, 256, 65535, 1 << 20, 2097150, 2097151} {
		for _, name := range []string{"text", "local", "setlocal", "captured", "global", "setglobal", "jump", "branch", "closure", "call", "tail", "char", "imm"} {
			says(t, "P2503", head+name+" "+strconv.Itoa(n), one(op(opsList[name], n)))
		}
	}
	misshapen(t, "P2503", head+"jump 2097152")
}

func TestP2503Fixnums(t *testing.T) {
	for n := range 61 {
		for _, a := range []int{1<<n - 2, 1<<n - 1, 1 << n, 1<<n + 1, -1<<n + 1, -1 << n, -1<<n - 1} {
			text := head + "fix " + strconv.Itoa(a)
			if a >= leastFix && a <= mostFix {
				says(t, "P2503", text, one(op(api.OpFix, a)))
			} else {
				wrongAt(t, "P2503", 2, text)
			}
		}
	}
	for word := range decimals() {
		plainly(t, "P2503", head+"fix "+word)
		plainly(t, "P2503", head+"fix -"+word)
	}
	for _, a := range []string{"-0", "-00", "-01", "--1", "- 1", "-", "+1", "-a", "0x5", "1-", "'a'", "nil", "9223372036854775807", "-9223372036854775807", "-9223372036854775808", "-9223372036854775809", "-18446744073709551615", "2305843009213693952", "-2305843009213693952", "18446744073709551621"} {
		wrongAt(t, "P2503", 2, head+"fix "+a)
	}
}

func TestP2503Floats(t *testing.T) {
	for _, a := range []int{0, 1, 15, 16, 255, -1, -2, 1 << 62, least, least + 1, greatest, 0x0123456789abcdef, -0x0123456789abcdef, 4607182418800017408} {
		says(t, "P2503", head+fmt.Sprintf("flo 0x%016x", uint64(a)), one(op(api.OpFlo, a)))
	}
	for i := range 16 {
		for b := range 256 {
			digits := []byte("0000000000000000")
			digits[i] = byte(b)
			plainly(t, "P2503", head+"flo 0x"+string(digits))
			if b < '0' || b > '9' && b < 'a' || b > 'f' {
				wrongAt(t, "P2503", 2, head+"flo 0x"+string(digits))
			} else {
				d, _ := strconv.ParseUint(string(rune(b)), 16, 64)
				says(t, "P2503", head+"flo 0x"+string(digits), one(op(api.OpFlo, int(d<<(60-4*i)))))
			}
		}
	}
	for _, a := range []string{"0", "1", "0x", "0x1", "0x000000000000001", "0x00000000000000001", "0X0000000000000001", "x0000000000000001", "0000000000000001", "000000000000000001", "-0x0000000000000001", "0x-000000000000001", "0x 000000000000001", "1.5", "0x0x00000000000001", "'a'", "0x00000000000000é", "0x00000000000000\u0661", "0x0000000000000000 0", "0x000000000000000\xff"} {
		wrongAt(t, "P2503", 2, head+"flo "+a)
	}
}

func TestP2503Immediates(t *testing.T) {
	for i, word := range []string{"nil", "false", "true", "void", "broken", "unbound"} {
		says(t, "P2503", head+"imm "+word, one(op(api.OpImm, i)))
		says(t, "P2503", head+"imm "+strconv.Itoa(i), one(op(api.OpImm, i)))
		for _, wrong := range []string{strings.ToUpper(word), word[1:], word + "s", word[:len(word)-1], "#" + word, word + ":", "'" + word + "'", "\"" + word + "\"", "-" + word} {
			wrongAt(t, "P2503", 2, head+"imm "+wrong)
		}
		for _, other := range []string{"fix", "local", "char", "call"} {
			wrongAt(t, "P2503", 2, head+other+" "+word)
		}
	}
	says(t, "P2503", head+"imm 6", one(op(api.OpImm, 6)))
	says(t, "P2503", head+"nil:\njump nil", one(op(api.OpJump, 0)))
}

// A jump goes to a number, be there such an instruction or none, or to a label ahead of it, at it, behind it.
func TestP2503Jumps(t *testing.T) {
	for _, name := range []string{"jump", "branch"} {
		n := opsList[name]
		for at := range 6 {
			lines := strings.SplitAfter(strings.Repeat("pop\n", at)+"x:\n"+strings.Repeat("pop\n", 5-at), "\n")
			for i := range lines {
				with := head + strings.Join(lines[:i], "") + name + " x\n" + strings.Join(lines[i:], "")
				plain, _, _ := plainAssemble(with)
				says(t, "P2503", with, plain)
				want := at
				if i <= at {
					want++
				}
				found := false
				for _, in := range plain.Funcs[0].Code {
					found = found || in == op(n, want)
				}
				if !found {
					t.Errorf("P2503: %q: %v", with, plain)
				}
			}
		}
		for _, wrong := range []string{"y", "-1", "x1", "1x", "x:", "X", "L0", "0x0", "x-", "é", "xé", "\"x\"", "'x'", "+0", "00", "x y", "x 0", "0 x", ".", "%", "\xff"} {
			wrongAt(t, "P2503", 4, head+"x:\npop\n"+name+" "+wrong+"\npop")
		}
		for _, right := range []int{0, 1, 2, 3, 99, 2097151} {
			says(t, "P2503", head+"pop\n"+name+" "+strconv.Itoa(right), one(op(api.OpPop), op(n, right)))
		}
		says(t, "P2503", head+name+" end\nend:\n", one(op(n, 1)))
		says(t, "P2503", head+name+" end\n"+name+" end\nend:\n"+name+" end\n", one(op(n, 2), op(n, 2), op(n, 2)))
	}
	for _, other := range []string{"call", "tail", "closure", "local", "fix", "imm", "text"} {
		wrongAt(t, "P2503", 3, head+"x:\n"+other+" x\n")
	}
}

// textIs tells a fault, if what stands between signs is not these bytes.
func textIs(t *testing.T, body, want string) {
	t.Helper()
	says(t, "P2504", "text \""+body+"\"\n"+head, api.Program{Texts: [][]byte{[]byte(want)}, Funcs: make([]api.Func, 1)})
}

const hexDigits = "0123456789abcdef"

func TestP2504Bytes(t *testing.T) {
	for b := range 256 {
		c := string([]byte{byte(b)})
		if !strings.Contains("\n\"\\", c) {
			textIs(t, c, c)
			textIs(t, "a"+c+c+"b", "a"+c+c+"b")
			textIs(t, `\n`+c+`\\`, "\n"+c+"\\")
		}
		textIs(t, fmt.Sprintf(`\x%02x`, b), c)
		textIs(t, fmt.Sprintf(`\x%02x\x%02x0`, b, b), c+c+"0")
		for d := range 256 {
			body := "\\x" + string([]byte{byte(b), byte(d)})
			if first, second := strings.Index(hexDigits, body[2:3]), strings.Index(hexDigits, body[3:]); first >= 0 && second >= 0 {
				textIs(t, body, string([]byte{byte(16*first + second)}))
			} else if b != '\n' && d != '\n' {
				wrongAt(t, "P2504", 1, "text \""+body+"\"\n"+head)
			}
		}
	}
	textIs(t, "", "")
	textIs(t, `a\\n`, `a\n`)
	textIs(t, `\\\\`, `\\`)
	textIs(t, `\\x41`, `\x41`)
	textIs(t, `\x5cn`, `\n`)
	textIs(t, `\x22\x27\x0a`, "\"'\n")
	textIs(t, "é\xc3\u2028\U0001f600", "é\xc3\u2028\U0001f600")
}

// Behind a \ stand the bytes that are told, and no others.
func TestP2504Escapes(t *testing.T) {
	right := map[string]string{`\`: "\\", `"`: "\"", `'`: "'", "n": "\n", "t": "\t"}
	for b := range 256 {
		c := string([]byte{byte(b)})
		if want, there := right[c]; there {
			textIs(t, `\`+c, want)
			textIs(t, `a\`+c+`b\`+c, "a"+want+"b"+want)
			says(t, "P2504", head+`char '\`+c+`'`, one(op(api.OpChar, int(want[0]))))
		} else if b != '\n' {
			wrongAt(t, "P2504", 1, "text \"\\"+c+"\"\n"+head)
			wrongAt(t, "P2504", 2, head+"char '\\"+c+"'")
		}
	}
	for _, wrong := range []string{`\x`, `\x1`, `\xg0`, `\x0G`, `\xA0`, `\xaB`, `\x 1`, `\x1 `, `\X41`, `\N`, `\r`, `\0`, `\u00e9`, `\é`, `a\`, `\x4\x41`, `\x\x41`, `\n\q`, `\x+1`, `\x-1`} {
		wrongAt(t, "P2504", 1, "text \""+wrong+"\"\n"+head)
		wrongAt(t, "P2504", 2, head+"char '"+wrong+"'\npop")
	}
}

// A char is the UTF-8 of just one scalar, its bytes by themselves or told by escapes.
func TestP2504Chars(t *testing.T) {
	for _, x := range []struct {
		quote string
		want  int
	}{
		{"a", 97}, {" ", 32}, {";", 59}, {"\"", 34}, {`\"`, 34}, {`\'`, 39}, {`\\`, 92}, {`\n`, 10}, {`\t`, 9}, {"\t", 9}, {"\x00", 0}, {"\x7f", 127}, {"\r", 13}, {`\x00`, 0}, {`\x41`, 65}, {`\x7f`, 127},
		{"é", 233}, {`\xc3\xa9`, 233}, {"\xc3" + `\xa9`, 233}, {`\xc3` + "\xa9", 233}, {"\u07ff", 0x7ff}, {"\u0800", 0x800}, {"\ud7ff", 0xd7ff}, {"\ue000", 0xe000}, {"\ufffd", 0xfffd}, {`\xef\xbf\xbd`, 0xfffd}, {"\ufeff", 0xfeff}, {"\uffff", 0xffff}, {"\U00010000", 0x10000}, {"\U0010ffff", 0x10ffff}, {`\xf4\x8f\xbf\xbf`, 0x10ffff},
	} {
		says(t, "P2504", head+"char '"+x.quote+"'", one(op(api.OpChar, x.want)))
	}
	for _, wrong := range []string{
		"", "ab", "aa", "é ", " é", "éé", "e\u0301", `a\n`, `\n\n`, `\x41\x41`, "\x80", "\xff", "\xc3", `\xc3`, `\x80`, `\xff`, "\xa9", "\xc3a", "a\xff", "\xffa", "\xff\xff",
		"\xc0\x80", "\xc1\xbf", "\xe0\x80\x80", "\xe0\x9f\xbf", "\xed\xa0\x80", "\xed\xbf\xbf", `\xed\xa0\x80`, "\xf0\x80\x80\x80", "\xf0\x8f\xbf\xbf", "\xf4\x90\x80\x80", "\xf5\x80\x80\x80", "\xf8\x88\x80\x80\x80", "\xe2\x82", "\xf0\x9f\x98", "\xef\xbf\xbd\xbd",
	} {
		wrongAt(t, "P2504", 2, head+"char '"+wrong+"'")
	}
	for _, a := range []string{`"a"`, "a", "A", "é", "''", "'a", "a'", "0x41", "-1", "'a''b'", `\n`} {
		wrongAt(t, "P2504", 2, head+"char "+a)
	}
	says(t, "P2503", head+"char 97\nchar 55296\nchar 2097151", one(op(api.OpChar, 97), op(api.OpChar, 0xd800), op(api.OpChar, 2097151)))
}

// All scalars there are, a few thousand of them in a function.
func TestP2504AllScalars(t *testing.T) {
	const many = 4096
	for first := 0; first <= utf8.MaxRune; first += many {
		text := []byte(head)
		var list []api.Ins
		for r := rune(first); r < rune(first+many) && r <= utf8.MaxRune; r++ {
			switch {
			case !utf8.ValidRune(r):
			case r == '\n' || r == '\'' || r == '\\':
			default:
				text = append(utf8.AppendRune(append(text, "char '"...), r), "'\n"...)
				list = append(list, op(api.OpChar, int(r)))
			}
		}
		says(t, "P2504", string(text), one(list...))
	}
	for r := range 0x800 {
		bytes := []byte{0xed, 0xa0 | byte(r>>6), 0x80 | byte(r&0x3f)}
		wrongAt(t, "P2504", 2, head+"char '"+string(bytes)+"'")
	}
}
