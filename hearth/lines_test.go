package hearth

import (
	"strings"
	"testing"
)

// Lines without a meaning, wherever they stand.
func TestP2602Nothing(t *testing.T) {
	for _, x := range []string{"", "#", "##", "#x", "# run p", "#|fix 5", "# \t\x00\xff"} {
		plays(t, "P2602", x+"\n", "")
		plays(t, "P2602", x+"\n"+x, "")
		plays(t, "P2602: in a program", "program p\n"+x+"\n|func 0 0 0\n"+x+"\n"+x+"\n|fix 5\n|return\n"+x+"\nrun p\n"+x, "done 5 steps 2 collections 0\n")
	}
	refuses(t, "P2602", " ", "\t", " #", "\t#", "\r", "x#", " # run p")
	plays(t, "P2602", "run p # a remark\n", "error 100\n")
}

// A line of a program is what follows the |, whatever it is.
func TestP2602Program(t *testing.T) {
	for _, x := range [][2]string{
		{"|func 0 0 0\n|fix 5\n|return\n", "5\n"},
		{"|func 0 0 0\n|\n||\n", "line 3\n"},
		{"|func 0 0 0\n|# remark\n", "line 2\n"},
		{"|func 0 0 0\n|; remark\n|\n| \tfix 6 ; x\n|return", "6\n"},
		{"|\n|\n|text \"a\\n\"\n|func 0 0 0\n|text 0\n|return", "\"a\\x0A;\"\n"},
		{"|func 0 0 0\n|fix 5\r\n|return", "line 2\n"},
		{"|func 0 0 0\n|fix\n|5\n|return", "line 2\n"},
		{"|func 0 0 0 fix 5\n", "line 1\n"},
		{"|run p\n", "line 1\n"},
		{"|text \"\xff#|\"\n|func 0 0 0\n|text 0\n|return", "\"\\xFF;#|\"\n"},
	} {
		plays(t, "P2602", "program p\n"+x[0]+"\nvalue p\n", x[1])
		plainly(t, "P2602", "program p\n"+x[0]+"\nvalue p\nlist p\ncode p\n")
	}
	plays(t, "P2602: each line has its end", "program p\n|func 0 0 0\n|x\nrun p\nprogram p\n|func 0 0 0\n|\n|x\nrun p\nprogram p\n|"+"func 0 0 0\n|fix 5 ; x\n|return ; x\nvalue p", "line 2\nline 3\n5\n")
}

// Where no program is open a line of one is refused, and says nothing.
func TestP2602NoProgram(t *testing.T) {
	refuses(t, "P2602", "|", "|fix 5", "|func 0 0 0", "||", "|#", "| ", "|run p")
	const five, p = "|func 0 0 0\n|fix 5\n|return\n", "program p\n"
	plays(t, "P2602", five, strings.Repeat("error 100\n", 3))
	plays(t, "P2602: not ahead of it", five+p+five+"value p\n", strings.Repeat("error 100\n", 3)+"5\n")
	plays(t, "P2602: a wrong name opens none", p+five+"program P\n|x\nvalue p\n", "error 100\nerror 100\n5\n")
	plays(t, "P2602: nor one without a name", p+five+"program\n|x\nvalue p\n", "error 100\nerror 100\n5\n")
}

// Every line that means something and is not the program's closes it, one that is refused too.
func TestP2602Closes(t *testing.T) {
	for _, x := range []struct{ line, told string }{
		{"pages 9", ""}, {"fuel 9", ""}, {"force 9", ""}, {"poke 9 9 9", ""}, {"clear", ""}, {"program q", ""},
		{"value p", "5\n"}, {"run p", "done 5 steps 2 collections 0\n"}, {"list p", "func 0 0 0\n\tfix 5\n\treturn\n"},
		{"x", "error 100\n"}, {" ", "error 100\n"}, {" #", "error 100\n"}, {" |x", "error 100\n"}, {"run q", "error 100\n"}, {"pages -1", "error 100\n"}, {"program P", "error 100\n"}, {"clear x", "error 100\n"}, {"\t", "error 100\n"},
	} {
		ahead := main("p", "fix 5;return")
		behind, told := "|x\nvalue p\n", "error 100\n5\n"
		if x.line == "program q" {
			told = "5\n"
		}
		plays(t, "P2602: "+x.line, ahead+x.line+"\n"+behind, x.told+told)
		plays(t, "P2602: "+x.line, ahead+"\n#\n"+x.line+"\n#\n\n"+behind, x.told+told)
	}
	for _, x := range []string{"", "#", "# x", "\n\n"} {
		plays(t, "P2602: open still", "program p\n|func 0 0 0\n"+x+"\n|fix 5\n"+x+"\n|return\n"+x+"\nvalue p\n", "5\n")
	}
}

// One blank between words, none ahead, none behind.
func TestP2602Blanks(t *testing.T) {
	for _, line := range []string{"program s", "pages 9", "fuel 9", "force 9 8", "poke 9 9 9", "clear", "code p", "list p", "run p", "model p", "same p", "heap p", "value p"} {
		list := []string{" " + line, line + " ", "  " + line, line + "  ", "\t" + line, line + "\t", line + "\r", line + "\x00", line + "\u00a0"}
		for at := range len(line) {
			if line[at] == ' ' {
				for _, gap := range []string{"  ", "\t", " \t", "\t ", "\u00a0", "\x00", "\v", "   "} {
					list = append(list, line[:at]+gap+line[at+1:])
				}
			}
		}
		if name, rest, more := strings.Cut(line, " "); more {
			list = append(list, name+rest)
		}
		refuses(t, "P2602", list...)
	}
}

// Names are 1 to 16 letters a to z.
func TestP2602Names(t *testing.T) {
	for _, name := range []string{"a", "z", "ab", "program", "run", "abcdefghijklmnop", "qrstuvwxyzzzzzzz"} {
		plays(t, "P2602", main(name, "fix 5;return")+"value "+name, "5\n")
	}
	var wrong []string
	for _, name := range []string{"", "A", "aB", "a1", "1", "a_", "a-b", "é", "a\x00", "abcdefghijklmnopq", strings.Repeat("a", 1000), "a\xff", "`", "{", "ａ", "a.", "|", "#"} {
		wrong = append(wrong, "program "+name)
		for _, command := range []string{"code", "list", "run", "model", "same", "heap", "value"} {
			wrong = append(wrong, command+" "+name)
		}
	}
	refuses(t, "P2602", wrong...)
	for b := range 256 { // each byte, alone and behind a letter
		if b == '\n' {
			continue
		}
		for _, name := range []string{string([]byte{byte(b)}), string([]byte{'a', byte(b)})} {
			plainly(t, "P2602", main(name, "fix 5;return")+"value "+name)
		}
	}
}

// Numbers, as the places that take them tell: they are refused, or they are said.
func TestP2602Numbers(t *testing.T) {
	p := main("p", "fix 5;return")
	for _, x := range []struct {
		word    string
		natural bool
		whole   bool
	}{
		{"0", true, true}, {"1", true, true}, {"9", true, true}, {"10", true, true}, {"100", true, true}, {"65", true, true},
		{"9223372036854775807", true, true}, {"1000000000000000000", true, true}, {"999999999999999999", true, true},
		{"-1", false, true}, {"-10", false, true}, {"-9223372036854775807", false, true}, {"-9223372036854775808", false, true},
		{word: "9223372036854775808"}, {word: "-9223372036854775809"}, {word: "18446744073709551616"}, {word: "18446744073709551621"}, {word: "-18446744073709551615"}, {word: "10000000000000000000"}, {word: "92233720368547758070"}, {word: strings.Repeat("9", 1000)}, {word: "1" + strings.Repeat("0", 400)},
		{word: ""}, {word: "-"}, {word: "-0"}, {word: "00"}, {word: "01"}, {word: "-01"}, {word: "--1"}, {word: "+1"}, {word: "+0"}, {word: "1-"}, {word: "1_0"}, {word: "0x1"}, {word: "1e1"}, {word: "1.0"}, {word: "1,"}, {word: "a"}, {word: "0a"}, {word: "a0"}, {word: "-a"}, {word: "1\x00"}, {word: "1\t"}, {word: "１"}, {word: "٣"}, {word: "1\xff"}, {word: "/"}, {word: ":"}, {word: "1:"}, {word: "1/"}, {word: strings.Repeat("0", 1000)},
	} {
		for _, y := range []struct {
			line  string
			right bool
		}{
			{"pages " + x.word, x.natural}, {"fuel " + x.word, x.natural}, {"force " + x.word, x.natural}, {"force 3 " + x.word + " 4", x.natural},
			{"poke " + x.word + " 1 1", x.natural}, {"poke 1 " + x.word + " 1", x.natural}, {"poke 1 1 " + x.word, x.whole},
		} {
			want := ""
			if !y.right {
				want = "error 100\n"
			}
			plays(t, "P2602", y.line, want)
			plainly(t, "P2602", p+y.line+"\nrun p\nheap p\n")
		}
	}
}
