package hearth

import (
	"fmt"
	"strings"
	"testing"

	"hearth/api"
	"hearth/model"
	"hearth/vm"
)

// weak tells what a weak pair's car is, and whether it was collected at 5.
const weak = "fix 1;fix 2;cons;imm void;weakcons;weakcar;return"

// loop makes pairs without an end, and keeps none.
const loop = "fix 1;fix 2;cons;pop;jump 0"

// hoard keeps all pairs that it makes, in a local.
var hoard = split("func 0 1 0;imm nil;setlocal 0;fix 1;local 0;cons;setlocal 0;jump 2")

// What there is at the beginning: 64 pages, a fuel of 100000, nothing forced, nothing corrupted, no program.
func TestP2603Beginning(t *testing.T) {
	plays(t, "P2603: pages", main("p", "fix 5;return")+"heap p", "words 4096 blocks 3 free 62 found 0\n")
	plays(t, "P2603: fuel", main("p", "jump 0")+"run p\nmodel p", "fuel steps 100000 collections 0\nfuel steps 100000 collections 0\n")
	plays(t, "P2603: nothing forced", main("p", weak)+"run p", "done (1 . 2) steps 7 collections 0\n")
	plays(t, "P2603: no program", "run p\nlist program\ncode a", "error 100\nerror 100\nerror 100\n")
}

func TestP2603NoCommand(t *testing.T) {
	refuses(t, "P2603", "x", "Run p", "RUN p", "runs p", "ru p", "run", "p", "program", "pages", "fuel", "force", "poke", "clear p", "code", "list", "model", "same", "heap", "value",
		"newProgram p", "setPages 3", "tellOf p", "quit", "help", "run p p", "run p q", "code p q", "list p p", "model p p", "same p p", "heap p p", "value p p", "program p q", "program p p",
		"pages 1 2", "fuel 1 2", "poke 1", "poke 1 2", "poke 1 2 3 4", "clear 1", "run 1", "run P", "run z", "code z", "list z", "model z", "same z", "heap z", "value z", "run run", "é p", "error 100", "done 5")
}

// A program's name stands for the last one that was opened by it.
func TestP2603Program(t *testing.T) {
	five, six := main("p", "fix 5;return"), main("p", "fix 6;return")
	plays(t, "P2603", five+"value p\n"+six+"value p\nvalue p\n", "5\n6\n6\n")
	plays(t, "P2603: given up at once", five+"program p\nvalue p\n", "line 0\n")
	plays(t, "P2603: given up while it is open", "program p\n|x\nprogram p\n|func 0 0 0\n|fix 5\n|return\nvalue p\n", "5\n")
	plays(t, "P2603: not opened again", five+"clear\n|x\nvalue p\n", "error 100\n5\n")
	plays(t, "P2603: each is its own", five+main("q", "fix 6;return")+"value p\nvalue q\n"+main("q", "fix 7;return")+"value p\nvalue q\nvalue r\n", "5\n6\n5\n7\nerror 100\n")
	plays(t, "P2603: from one to the next", "program p\n|func 0 0 0\nprogram q\n|fix 5\nvalue p\nvalue q", Play(main("p", "")[:len("program p\n|func 0 0 0\n")]+"value p")+"line 1\n")
	plays(t, "P2603: a name like a command's", main("run", "fix 5;return")+"run run\n", "done 5 steps 2 collections 0\n")
	plays(t, "P2603: wrong ones leave it there", five+"program p p\nprogram p \nprogram  p\nvalue p\n", "error 100\nerror 100\nerror 100\n5\n")
	var many, told strings.Builder
	for i := range 500 {
		name := string([]byte{'a' + byte(i%26), 'a' + byte(i/26)})
		many.WriteString(main(name, fmt.Sprintf("fix %d;return", i)))
	}
	for i := range 500 {
		name := string([]byte{'a' + byte(i%26), 'a' + byte(i/26)})
		many.WriteString("value " + name + "\n")
		fmt.Fprintln(&told, i)
	}
	plays(t, "P2603: many", many.String(), told.String())
}

func TestP2603Pages(t *testing.T) {
	p := main("p", "fix 5;return")
	for _, x := range []struct{ n, told string }{
		{"0", "rejected 1 0 0 steps 0 collections 0\nwords 0 blocks 0 free 0 found 1\n"},
		{"1", "memory steps 0 collections 0\nwords 64 blocks 0 free 1 found 0\n"},
		{"2", "done 5 steps 2 collections 0\nwords 128 blocks 3 free 0 found 0\n"},
		{"3", "done 5 steps 2 collections 0\nwords 192 blocks 3 free 1 found 0\n"},
		{"4096", "done 5 steps 2 collections 0\nwords 262144 blocks 3 free 4094 found 0\n"},
		{"4097", "rejected 1 0 0 steps 0 collections 0\nwords 0 blocks 0 free 0 found 1\n"},
		{"9223372036854775807", "rejected 1 0 0 steps 0 collections 0\nwords 0 blocks 0 free 0 found 1\n"},
	} {
		plays(t, "P2603", p+"pages "+x.n+"\nrun p\nheap p\n", x.told)
		plays(t, "P2603", "pages 7\npages "+x.n+"\n"+p+"run p\nheap p\n", x.told)
	}
	plays(t, "P2603: the last one counts", p+"pages 0\nrun p\npages 2\nrun p\npages -2\npages\npages x\nrun p\n", "rejected 1 0 0 steps 0 collections 0\ndone 5 steps 2 collections 0\nerror 100\nerror 100\nerror 100\ndone 5 steps 2 collections 0\n")
}

func TestP2603Fuel(t *testing.T) {
	p := main("p", "fix 5;return")
	for _, x := range []struct{ n, told string }{
		{"0", "fuel steps 0 collections 0\n"}, {"1", "fuel steps 1 collections 0\n"}, {"2", "done 5 steps 2 collections 0\n"}, {"3", "done 5 steps 2 collections 0\n"},
		{"1099511627776", "done 5 steps 2 collections 0\n"}, {"1099511627777", "rejected 1 0 0 steps 0 collections 0\n"}, {"9223372036854775807", "rejected 1 0 0 steps 0 collections 0\n"},
	} {
		plays(t, "P2603", p+"fuel "+x.n+"\nrun p\nmodel p\n", x.told+x.told)
		plays(t, "P2603", "fuel 7\nfuel "+x.n+"\n"+p+"run p\n", x.told)
	}
	plays(t, "P2603: the last one counts", p+"fuel 1\nrun p\nfuel 9\nrun p\nfuel -1\nfuel\nfuel 01\nrun p\n", "fuel steps 1 collections 0\ndone 5 steps 2 collections 0\nerror 100\nerror 100\nerror 100\ndone 5 steps 2 collections 0\n")
}

func TestP2603Force(t *testing.T) {
	p := main("p", weak)
	for _, x := range []struct{ lines, told string }{
		{"force 5", "done #!broken steps 7 collections 1\n"},
		{"force 4", "done (1 . 2) steps 7 collections 1\n"},
		{"force 0", "done (1 . 2) steps 7 collections 1\n"},
		{"force 7", "done (1 . 2) steps 7 collections 0\n"},
		{"force 5 5 5", "done #!broken steps 7 collections 1\n"},
		{"force 6 5 0 99", "done #!broken steps 7 collections 3\n"},
		{"force 5\nforce 6\nforce 0 1", "done #!broken steps 7 collections 4\n"},
		{"force 5 x", "error 100\ndone (1 . 2) steps 7 collections 0\n"},
		{"force 5 -1", "error 100\ndone (1 . 2) steps 7 collections 0\n"},
		{"force -5", "error 100\ndone (1 . 2) steps 7 collections 0\n"},
		{"force", "error 100\ndone (1 . 2) steps 7 collections 0\n"},
		{"force 9223372036854775807", "done (1 . 2) steps 7 collections 0\n"},
		{"force" + strings.Repeat(" 5", 50), "done #!broken steps 7 collections 1\n"},
		{"force" + strings.Repeat(" 5", 51), "error 100\ndone (1 . 2) steps 7 collections 0\n"},
		{"force" + strings.Repeat(" 9", 49) + " 5", "done #!broken steps 7 collections 1\n"},
		{"force 5" + strings.Repeat(" 9", 49), "done #!broken steps 7 collections 1\n"},
		{"force 5" + strings.Repeat(" 9", 50), "error 100\ndone (1 . 2) steps 7 collections 0\n"},
	} {
		plays(t, "P2603", p+x.lines+"\nrun p\n", x.told)
		plainly(t, "P2603", p+x.lines+"\nrun p\nsame p\nmodel p\nheap p\n")
	}
}

// There may be 65536 forced collections: the line that would pass it says nothing, a shorter one may still fit.
func TestP2603MostForced(t *testing.T) {
	full := func(n int) string { return strings.Repeat("force"+strings.Repeat(" 9", 50)+"\n", n) }
	p := main("p", weak)
	const broken, whole = "done #!broken steps 7 collections 1\n", "done (1 . 2) steps 7 collections 0\n"
	for _, x := range []struct{ lines, told string }{
		{full(1310) + "force" + strings.Repeat(" 5", 36) + "\nforce 0\n", "error 100\n" + broken}, // 65536, and one more
		{full(1310) + "force" + strings.Repeat(" 5", 37) + "\n", "error 100\n" + whole},
		{full(1310) + "force" + strings.Repeat(" 5", 37) + "\nforce" + strings.Repeat(" 5", 36) + "\nforce 6\n", "error 100\nerror 100\n" + broken},
		{full(1310) + "force" + strings.Repeat(" 9", 35) + "\nforce 5 5\nforce 5\nforce 6\n", "error 100\nerror 100\n" + broken},
		{full(1311), "error 100\n" + whole},
		{full(1311) + "clear\nforce 5\n", "error 100\n" + broken},
		{full(1310) + "clear\n" + full(1310) + "force" + strings.Repeat(" 5", 36) + "\nforce 4", broken[:0] + "error 100\n" + broken},
	} {
		plays(t, "P2603", p+x.lines+"\nrun p\n", x.told)
	}
}

// A corruption counts where it stands, behind the others of its step.
func TestP2603Poke(t *testing.T) {
	p := main("p", weak)
	for _, x := range []struct{ lines, told string }{
		{"poke 5 132 0", "corrupt 132 steps 6 collections 0\nwords 4096 blocks 5 free 61 found 1\n"},
		{"poke 7 132 0", "done (1 . 2) steps 7 collections 0\nwords 4096 blocks 5 free 61 found 0\n"},
		{"poke 0 0 -9223372036854775808", "done (1 . 2) steps 7 collections 0\nwords 4096 blocks 5 free 61 found 1\n"},
		{"poke 0 0 9223372036854775807", "done (1 . 2) steps 7 collections 0\nwords 4096 blocks 5 free 61 found 1\n"},
		{"poke 0 0 -1", "done (1 . 2) steps 7 collections 0\nwords 4096 blocks 5 free 61 found 1\n"},
		{"poke 0 4096 0", "done (1 . 2) steps 7 collections 0\nwords 4096 blocks 5 free 61 found 0\n"},
		{"poke 0 9223372036854775807 0\npoke 9223372036854775807 0 0", "done (1 . 2) steps 7 collections 0\nwords 4096 blocks 5 free 61 found 0\n"},
		{"poke 0 0 0 0", "error 100\ndone (1 . 2) steps 7 collections 0\nwords 4096 blocks 5 free 61 found 0\n"},
		{"poke 0 0", "error 100\ndone (1 . 2) steps 7 collections 0\nwords 4096 blocks 5 free 61 found 0\n"},
		{"poke 0 0 x", "error 100\ndone (1 . 2) steps 7 collections 0\nwords 4096 blocks 5 free 61 found 0\n"},
		{"poke 0 0 -0", "error 100\ndone (1 . 2) steps 7 collections 0\nwords 4096 blocks 5 free 61 found 0\n"},
		{"poke 0 0 9223372036854775808", "error 100\ndone (1 . 2) steps 7 collections 0\nwords 4096 blocks 5 free 61 found 0\n"},
		{"poke 0 -1 0\npoke -1 0 0", "error 100\nerror 100\ndone (1 . 2) steps 7 collections 0\nwords 4096 blocks 5 free 61 found 0\n"},
		{"poke 3 129 80\npoke 3 0 0\npoke 3 0 5\nforce 3", "corrupt 0 steps 3 collections 0\nwords 4096 blocks 4 free 61 found 1\n"},
	} {
		plays(t, "P2603", p+x.lines+"\nrun p\nheap p\n", x.told)
		plainly(t, "P2603", p+x.lines+"\nrun p\nheap p\nvalue p\nmodel p\nsame p\n")
	}
	// Of two words for one place the later line's stays.
	word := vm.New(api.Script{Program: rowOf(t, "p", weak), Pages: 64, Fuel: 9}).Dump().Words[0]
	plays(t, "P2603: in their order", p+fmt.Sprintf("poke 3 0 5\npoke 3 0 %d\nheap p\npoke 3 0 5\nheap p\n", word), "words 4096 blocks 5 free 61 found 0\nwords 4096 blocks 5 free 61 found 1\n")
}

// There may be 65536 corruptions, and not one more.
func TestP2603MostPokes(t *testing.T) {
	p := main("p", weak)
	full := func(n int) string { return strings.Repeat("poke 9 9 9\n", n) }
	const found, none = "words 4096 blocks 5 free 61 found 1\n", "words 4096 blocks 5 free 61 found 0\n"
	plays(t, "P2603", full(65535)+"poke 0 0 0\n"+p+"heap p", found)
	plays(t, "P2603", full(65536)+"poke 0 0 0\n"+p+"heap p", "error 100\n"+none)
	plays(t, "P2603", full(65536)+"poke 0 0 0\npoke 0 0 0\nclear\npoke 0 0 0\n"+p+"heap p", "error 100\nerror 100\n"+found)
	plays(t, "P2603: forced ones are others", full(65536)+"force 5\n"+p+"run p", "done #!broken steps 7 collections 1\n")
}

func TestP2603Clear(t *testing.T) {
	p := main("p", weak)
	plays(t, "P2603", p+"force 5\npoke 0 0 0\nrun p\nclear\nrun p\nheap p\n", "corrupt 0 steps 5 collections 0\ndone (1 . 2) steps 7 collections 0\nwords 4096 blocks 5 free 61 found 0\n")
	plays(t, "P2603", p+"clear\nclear\nforce 5\nrun p\nclear\nrun p\nforce 5\nrun p\n", "done #!broken steps 7 collections 1\ndone (1 . 2) steps 7 collections 0\ndone #!broken steps 7 collections 1\n")
	plays(t, "P2603: nothing else", p+"pages 5\nfuel 6\nclear\nrun p\nheap p\n", "fuel steps 6 collections 0\nwords 320 blocks 5 free 2 found 0\n")
	plays(t, "P2603: not beside words", p+"force 5\nclear x\nclear \nrun p\n", "error 100\nerror 100\ndone #!broken steps 7 collections 1\n")
}

// A program that is none is told by the line that is wrong, or by line 0, whatever is asked of it.
func TestP2603Unassembled(t *testing.T) {
	for _, x := range []struct {
		code []string
		line string
	}{
		{nil, "line 0\n"},
		{[]string{""}, "line 0\n"},
		{split(";;x"), "line 3\n"},
		{split("func 0 0 0;fix 5;jump a;x"), "line 3\n"},
		{split("globals 65;func 0 0 0"), "line 0\n"},
		{append(split("func 0 0 0"), strings.Split(strings.Repeat("pop\n", 4096), "\n")...), "bytes"},
		{append(split("func 0 0 0"), strings.Split(strings.Repeat("pop\n", 4097), "\n")...), "line 0\n"},
	} {
		text := named("p", x.code...)
		for _, command := range []string{"code", "list", "run", "model", "same", "heap", "value"} {
			if x.line != "bytes" {
				plays(t, "P2603", text+command+" p\n"+command+" p\n"+command+" q\n", x.line+x.line+"error 100\n")
			}
			plainly(t, "P2603", "fuel 500\n"+text+command+" p\n")
		}
	}
	var long []string // 16 functions of 4096 bytes: more than 65536 in all
	for range 16 {
		long = append(long, "func 0 0 0")
		long = append(long, strings.Split(strings.TrimSuffix(strings.Repeat("pop\n", 4096), "\n"), "\n")...)
	}
	plays(t, "P2603", named("p", long...)+"run p\ncode p\n", "line 0\nline 0\n")
	told := Play(named("p", long[:15*4097]...) + "run p\ncode p\n")
	if !strings.HasPrefix(told, "rejected 74 0 0 steps 0 collections 0\nbytes 61") {
		t.Errorf("P2603: %s", short(told))
	}
}

// What a program is, does not hang on the settings: it is asked for before and behind.
func TestP2603CodeAndList(t *testing.T) {
	text := named("p", "globals 2 ; two", "text \"a\"", "func 0 1 0", "again:", "", " text 0", "setlocal 0 ; x", "flo 0x0000000000000001", "branch again", "halt")
	const code = "bytes 29 687468010201016101000100050400070005010000000000000" + "00f0015\n"
	const list = "globals 2\ntext \"a\"\nfunc 0 1 0\nL0:\n\ttext 0\n\tsetlocal 0\n\tflo 0x0000000000000001\n\tbranch L0\n\thalt\n"
	plays(t, "P2603", text+"code p\nlist p\n", code+list)
	plays(t, "P2603", text+"pages 0\nfuel 0\nforce 1\npoke 1 1 1\nlist p\ncode p\nlist p\n", list+code+list)
	var all []string // each byte of a text, and so each pair of digits
	for b := range 256 {
		all = append(all, fmt.Sprintf("text \"\\x%02x\"", b))
	}
	for n := 0; n < 256; n += 64 {
		plainly(t, "P2603", named("p", append(all[n:n+64], split("func 0 0 0;fix 5;return")...)...)+"code p\nlist p\nvalue p\n")
	}
}

// rowOf is the bytes of such a program.
func rowOf(t testing.TB, name, code string) []byte {
	t.Helper()
	s := newShell()
	for _, line := range strings.Split(strings.TrimSuffix(main(name, code), "\n"), "\n") {
		s.read(line)
	}
	s.programs[name].assemble()
	return s.programs[name].row
}

// The model is told the fuel, the collections of the vm, and where it ran out of memory.
func TestP2603Model(t *testing.T) {
	weakly, keeps := main("p", weak), named("h", hoard...)
	plays(t, "P2603", weakly+"model p\nforce 5\nmodel p\nclear\nforce 4 6\nmodel p\n", "done (1 . 2) steps 7 collections 0\ndone #!broken steps 7 collections 1\ndone (1 . 2) steps 7 collections 2\n")
	plays(t, "P2603: out of memory", keeps+"pages 3\nrun h\nmodel h\n", "memory steps 84 collections 1\nmemory steps 84 collections 1\n")
	plays(t, "P2603: out of memory at New", weakly+"pages 1\nmodel p\nfuel 0\nmodel p\n", "memory steps 0 collections 0\nfuel steps 0 collections 0\n")
	plays(t, "P2603: out of fuel", keeps+"fuel 83\nmodel h\n", "fuel steps 83 collections 0\n")
	plays(t, "P2603: collections for want of room", main("p", loop)+"pages 3\nfuel 1000\nrun p\nmodel p\n", "fuel steps 1000 collections 12\nfuel steps 1000 collections 12\n")
	plays(t, "P2603: a corruption is the vm's alone", weakly+"poke 5 132 0\nforce 3\nrun p\nmodel p\n", "corrupt 132 steps 6 collections 1\ndone (1 . 2) steps 7 collections 1\n")
	plays(t, "P2603: nothing is told of pages", weakly+"pages 0\nforce 5\nmodel p\n", "done (1 . 2) steps 7 collections 0\n")
	plays(t, "P2603: rejected", main("p", "add;return")+"model p\nfuel 1099511627777\nmodel p\n", "rejected 74 0 0 steps 0 collections 0\nrejected 1 0 0 steps 0 collections 0\n")
	plays(t, "P2603: its log", main("p", "fix 7;out;pop;imm true;out;halt")+"model p\n", "done #!void steps 6 collections 0\nlog 7\nlog #t\n")
}

func TestP2603Same(t *testing.T) {
	weakly := main("p", weak)
	plays(t, "P2603", weakly+"same p\nforce 5\nsame p\nforce 5 4 6 0 9\nsame p\n", "same 7\nsame 8\nsame 11\n")
	plays(t, "P2603: without the corruptions", weakly+"poke 5 132 0\nsame p\nrun p\nsame p\n", "same 7\ncorrupt 132 steps 6 collections 0\nsame 7\n")
	plays(t, "P2603: out of memory", named("h", hoard...)+"pages 3\nsame h\n", "same 85\n")
	plays(t, "P2603: out of memory at New, rejected", weakly+"pages 1\nsame p\npages 0\nsame p\npages 9\nfuel 1099511627777\nsame p\n"+main("p", "add")+"fuel 9\nsame p\n", "same 0\nsame 0\nsame 0\nsame 0\n")
	plays(t, "P2603: out of fuel", main("p", loop)+"pages 3\nfuel 1000\nsame p\nfuel 0\nsame p\nfuel 1\nsame p\n", "same 1012\nsame 0\nsame 1\n")
	plays(t, "P2603: failed", main("p", "fix 1;fix 0;quot;return")+"same p\n", "same 3\n")
	plays(t, "P2603: with a log", main("p", "fix 1;out;pop;jump 0")+"fuel 4001\nsame p\n", "same 4001\n")
}

func TestP2603Heap(t *testing.T) {
	plays(t, "P2603", main("p", loop)+"pages 3\nfuel 1000\nheap p\nfuel 81\nheap p\nfuel 83\nheap p\n", "words 192 blocks 11 free 0 found 0\nwords 192 blocks 19 free 0 found 0\nwords 192 blocks 4 free 0 found 0\n")
	plays(t, "P2603: a large one, tables", main("p", "fix 200;imm nil;vector;pop;table;fix 1;fix 2;tableput;halt")+"heap p\nfuel 1\nheap p\nfuel 0\nheap p\n", "words 4096 blocks 7 free 56 found 0\nwords 4096 blocks 3 free 62 found 0\nwords 4096 blocks 3 free 62 found 0\n")
	plays(t, "P2603: every finding", main("p", weak)+"poke 6 0 0\npoke 6 2 0\npoke 6 132 0\npoke 6 133 9\nrun p\nheap p\nclear\nheap p\n", "done (1 . 2) steps 7 collections 0\nwords 4096 blocks 5 free 61 found 4\nwords 4096 blocks 5 free 61 found 0\n")
}

func TestP2603Value(t *testing.T) {
	for _, x := range []struct{ code, told string }{
		{"fix 5;return", "5"}, {"fix -5;halt", "-5"}, {weak, "(1 . 2)"}, {"imm nil;return", "()"}, {"char 32;return", `#\x20`},
		{"fix 1;fix 0;quot;return", ""}, {"fix 7;error", ""}, {"jump 0", ""}, {"add", ""}, {"fix 7;out;pop;fix 8;return", "8"},
	} {
		plays(t, "P2603: "+x.code, main("p", x.code)+"value p\n", x.told+"\n")
	}
	plays(t, "P2603", main("p", weak)+"pages 1\nvalue p\npages 0\nvalue p\npages 9\nforce 5\nvalue p\npoke 5 132 0\nvalue p\nclear\nfuel 6\nvalue p\n", "\n\n#!broken\n\n\n")
}

// Two runs that are not of one program part where they first stand unlike, if only for a while.
func TestP2603Unlike(t *testing.T) {
	for _, x := range []struct {
		arena, graph string
		told         string
	}{
		{"fix 5;return", "fix 5;return", "same 2\n"},
		{"fix 5;return", "fix 6;return", "unlike 1\n"},
		{"fix 5;pop;fix 7;return", "fix 6;pop;fix 7;return", "unlike 1\n"},
		{"fix 1;fix 2;less;return", "fix 1;fix 2;eq;return", "unlike 3\n"},
		{"fix 1;imm true;eq;return", "fix 1;imm true;cons;return", "unlike 3\n"},
		{"fix 5;return", "fix 5;halt", "same 2\n"},
		{"fix 5;return", "fix 5;error", "unlike 2\n"},
		{"fix 5;fix 5;cons;return", "fix 5;dup;cons;return", "same 4\n"},
		{"fix 5;box;return", "fix 5;not;return", "unlike 2\n"},
		{"fix 5;fix 0;rem;halt", "fix 5;fix 0;quot;halt", "same 3\n"},
		{"fix 5;out;halt", "fix 5;not;halt", "unlike 2\n"},
		{"imm void;dup;out;pop;halt", "imm void;dup;swap;pop;halt", "unlike 3\n"},
		{"imm void;dup;out;out;pop;halt", "imm void;dup;out;swap;pop;halt", "unlike 4\n"},
		{"fix 5;pop;jump 0;imm void;halt", "fix 5;pop;jump 3;imm void;halt", "unlike 3\n"},
	} {
		p := pair{arena: vm.New(api.Script{Program: rowOf(t, "p", x.arena), Pages: 9, Fuel: 99}), graph: model.New(rowOf(t, "p", x.graph))}
		if told := p.play(); told != x.told {
			t.Errorf("P2603: %q beside %q: %q, want %q", x.arena, x.graph, told, x.told)
		}
	}
}

// A corruption that together would leave out parts the two: at the end alone, or by the report alone.
func TestP2603UnlikeByACorruption(t *testing.T) {
	const pairHeader, weakCar, broken = 128, 133, 4<<3 | 2
	row := rowOf(t, "p", weak)
	for _, x := range []struct {
		poke api.Poke
		told string
	}{
		{api.Poke{Step: 99}, "same 8\n"},
		{api.Poke{Step: 5, At: pairHeader}, "unlike 5\n"},
		{api.Poke{Step: 5, At: weakCar, Word: broken}, "unlike 6\n"},
		{api.Poke{Step: 4, At: weakCar, Word: broken}, "same 8\n"},
	} {
		p := pair{arena: vm.New(api.Script{Program: row, Pages: 9, Fuel: 99, Force: []int{5}, Pokes: []api.Poke{x.poke}}), graph: model.New(row)}
		if told := p.play(); told != x.told {
			t.Errorf("P2603: %+v: %q, want %q", x.poke, told, x.told)
		}
	}
}

// Two outcomes are one if all their parts are.
func TestP2603OneOutcome(t *testing.T) {
	whole := func() api.Outcome {
		return api.Outcome{End: 1, Err: 2, N: 3, At: 4, Value: "5", Steps: 6, Log: []string{"7", "8"}, Collections: []int{9, 10}}
	}
	for i, turn := range []func(*api.Outcome){
		func(o *api.Outcome) { o.End++ }, func(o *api.Outcome) { o.Err++ }, func(o *api.Outcome) { o.N++ }, func(o *api.Outcome) { o.At++ }, func(o *api.Outcome) { o.Value += " " }, func(o *api.Outcome) { o.Steps++ },
		func(o *api.Outcome) { o.Log[1] = "7" }, func(o *api.Outcome) { o.Log = o.Log[:1] }, func(o *api.Outcome) { o.Log = nil },
		func(o *api.Outcome) { o.Collections[0]++ }, func(o *api.Outcome) { o.Collections = o.Collections[1:] }, func(o *api.Outcome) { o.Collections = append(o.Collections, 11) },
	} {
		a, b := whole(), whole()
		if !sameOutcome(a, b) {
			t.Errorf("P2603: %+v is not itself", a)
		}
		turn(&b)
		if sameOutcome(a, b) || sameOutcome(b, a) {
			t.Errorf("P2603: turn %d: %+v is %+v", i, a, b)
		}
	}
}

// Two graphs are one if all their parts are; no list and an empty one mean the same.
func TestP2603OneGraph(t *testing.T) {
	one, two := api.Value{Kind: 1, N: 1}, api.Value{Kind: 2, N: 2}
	whole := func() api.Graph {
		return api.Graph{Roots: []api.Value{one, two}, Nodes: []api.Node{
			{Id: 1, Kind: 1, Fields: []api.Value{one, two}},
			{Id: 2, Kind: 4, Raw: []int{1, 2}},
			{Id: 4, Kind: 10, Entries: []api.Entry{{Key: one, Value: two}, {Key: two, Value: one}}},
		}}
	}
	for i, turn := range []func(*api.Graph){
		func(g *api.Graph) { g.Roots[1].N++ }, func(g *api.Graph) { g.Roots[1].Kind++ }, func(g *api.Graph) { g.Roots = g.Roots[:1] },
		func(g *api.Graph) { g.Nodes = g.Nodes[:2] }, func(g *api.Graph) { g.Nodes[0], g.Nodes[1] = g.Nodes[1], g.Nodes[0] },
		func(g *api.Graph) { g.Nodes[2].Id-- }, func(g *api.Graph) { g.Nodes[2].Kind-- },
		func(g *api.Graph) { g.Nodes[1].Raw[1]++ }, func(g *api.Graph) { g.Nodes[1].Raw = nil },
		func(g *api.Graph) { g.Nodes[0].Fields[0].N++ }, func(g *api.Graph) { g.Nodes[0].Fields = g.Nodes[0].Fields[:1] },
		func(g *api.Graph) { g.Nodes[2].Entries[1].Key = one }, func(g *api.Graph) { g.Nodes[2].Entries[0].Value = one }, func(g *api.Graph) { g.Nodes[2].Entries = nil },
	} {
		a, b := whole(), whole()
		b.Nodes[1].Fields, b.Nodes[1].Entries, b.Nodes[0].Raw = []api.Value{}, []api.Entry{}, []int{}
		if !sameGraph(a, b) {
			t.Errorf("P2603: %+v is not itself", a)
		}
		turn(&b)
		if sameGraph(a, b) || sameGraph(b, a) {
			t.Errorf("P2603: turn %d: %+v is %+v", i, a, b)
		}
	}
}

// A model that has gone on by itself has parted at once.
func TestP2603UnlikeAtOnce(t *testing.T) {
	row := rowOf(t, "p", weak)
	for i, turn := range []func(*model.Model){
		func(m *model.Model) { m.Collect() },
		func(m *model.Model) { m.Step() },
		func(m *model.Model) { m.Stop(api.OutOfFuel) },
	} {
		m := model.New(row)
		turn(m)
		p := pair{arena: vm.New(api.Script{Program: row, Pages: 9, Fuel: 99}), graph: m}
		if told := p.play(); told != "unlike 0\n" {
			t.Errorf("P2603: turn %d: %q", i, told)
		}
	}
}
