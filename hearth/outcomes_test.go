package hearth

import (
	"fmt"
	"strings"
	"testing"

	"hearth/api"
)

// Each end, with its numbers, as a run tells it.
func TestP2604Ends(t *testing.T) {
	for _, x := range []struct{ ahead, code, told string }{
		{"", "fix 5;return", "done 5 steps 2 collections 0"},
		{"", "fix 1;fix 2;cons;halt", "done (1 . 2) steps 4 collections 0"},
		{"", "char 32;halt", `done #\x20 steps 2 collections 0`},
		{"", "fix -1152921504606846976;halt", "done -1152921504606846976 steps 2 collections 0"},
		{"", "fix 1;fix 0;quot;return", "failed 82 0 steps 3 collections 0"},
		{"", "fix 7;error", "failed 87 7 steps 2 collections 0"},
		{"", "fix -7;error", "failed 87 -7 steps 2 collections 0"},
		{"", "imm nil;error", "failed 80 1 steps 2 collections 0"},
		{"", "fix 1;imm nil;add;halt", "failed 80 2 steps 3 collections 0"},
		{"", "fix 3;fix 4;vector;fix 9;vectorref;halt", "failed 81 9 steps 5 collections 0"},
		{"", "fix 1024;fix 4;vector;halt", "failed 85 1024 steps 3 collections 0"},
		{"", "fix 5;call 0;halt", "failed 86 0 steps 2 collections 0"},
		{"", "closure 0;fix 1;call 1;halt", "failed 83 1 steps 3 collections 0"},
		{"force 1 1 0 2 9", "fix 5;return", "done 5 steps 2 collections 2"},
		{"force 3 2 9", "fix 1;fix 0;quot;return", "failed 82 0 steps 3 collections 1"},
		{"pages 1", "fix 5;return", "memory steps 0 collections 0"},
		{"pages 2", "fix 5;box;cons;return", "rejected 74 0 2 steps 0 collections 0"},
		{"pages 2", "fix 5;fix 6;cons;return", "memory steps 2 collections 1"},
		{"pages 2\nforce 1 2", "fix 5;fix 6;cons;return", "memory steps 2 collections 2"},
		{"fuel 0", "fix 5;return", "fuel steps 0 collections 0"},
		{"fuel 1\nforce 0 1", "fix 5;return", "fuel steps 1 collections 1"},
		{"poke 5 132 0", weak, "corrupt 132 steps 6 collections 0"},
		{"poke 5 132 0\nforce 5", weak, "corrupt 132 steps 5 collections 0"},
		{"poke 5 132 0\nforce 4", weak, "corrupt 132 steps 6 collections 1"},
		{"poke 0 64 0", "fix 5;return", "corrupt 64 steps 1 collections 0"},
		{"poke 0 0 0\nforce 0", "fix 5;return", "corrupt 0 steps 0 collections 0"},
		{"", "return", "rejected 74 0 0 steps 0 collections 0"},
		{"", "fix 5;pop", "rejected 77 0 1 steps 0 collections 0"},
		{"force 0 1", "jump 9", "rejected 73 0 0 steps 0 collections 0"},
		{"pages 4097", "jump 9", "rejected 1 0 0 steps 0 collections 0"},
	} {
		text := x.ahead + "\n" + main("p", x.code) + "run p\n"
		plays(t, "P2604", text, x.told+"\n")
		plainly(t, "P2604", text+"model p\nsame p\nheap p\nvalue p\n")
	}
	plays(t, "P2604: a global", named("p", split("globals 3;func 0 0 0;global 2;halt")...)+"run p\nmodel p\n", "failed 84 2 steps 1 collections 0\nfailed 84 2 steps 1 collections 0\n")
	plays(t, "P2604: a place", named("p", split("func 0 0 0;fix 5;return;func 1 1 0;local 0;return;func 0 0 0;fix 5;fix 6;add;pop;pop;halt")...)+"run p\nmodel p\n", strings.Repeat("rejected 74 2 4 steps 0 collections 0\n", 2))
}

// The texts of the log stand behind the line of the end, whatever the end is.
func TestP2604Log(t *testing.T) {
	const chatter = "fix 1;out;pop;text 0;out;pop;imm nil;out;pop;"
	const log = "log 1\nlog \"a\\x0A; \"\nlog ()\n"
	for _, x := range []struct{ ahead, code, told string }{
		{"", "fix 5;return", "done 5 steps 11 collections 0"},
		{"force 4 10", "fix 7;error", "failed 87 7 steps 11 collections 2"},
		{"fuel 10", "fix 5;return", "fuel steps 10 collections 0"},
		{"pages 3", "fix 5;fix 6;cons;return", "done (5 . 6) steps 13 collections 0"},
		{"pages 3", "fix 99;fix 6;vector;return", "memory steps 11 collections 1"},
		{"poke 11 0 0\nforce 11", "fix 5;fix 6;cons;return", "corrupt 0 steps 11 collections 0"},
	} {
		text := x.ahead + "\n" + named("p", split(`text "a\n ";func 0 0 0;`+chatter+x.code)...) + "run p\n"
		plays(t, "P2604", text, x.told+"\n"+log)
		plays(t, "P2604", text+"x\nrun p\nvalue q\n", x.told+"\n"+log+"error 100\n"+x.told+"\n"+log+"error 100\n")
		plainly(t, "P2604", text+"model p\nsame p\nheap p\nvalue p\n")
	}
	plays(t, "P2604: ahead of the log", main("p", "fix 1;out;pop;jump 0")+"fuel 3\nrun p\nfuel 2\nrun p\nfuel 1\nrun p\n", "fuel steps 3 collections 0\nlog 1\nfuel steps 2 collections 0\nlog 1\nfuel steps 1 collections 0\n")
}

// The log's texts in their order, as many as there may be.
func TestP2604GreatLog(t *testing.T) {
	text := named("p", split("func 0 1 0;fix 0;setlocal 0;local 0;out;pop;local 0;fix 1;add;setlocal 0;jump 2")...) + "fuel 1000000\nrun p\n"
	var want strings.Builder
	fmt.Fprintf(&want, "failed 88 0 steps %d collections 0\n", 2+65536*8+2)
	for i := range 65536 {
		fmt.Fprintf(&want, "log %d\n", i)
	}
	plays(t, "P2604", text, want.String())
	if told := Play(text + "model p\nsame p\n"); told != want.String()+want.String()+"same 524292\n" {
		t.Errorf("P2604: %s", short(told[max(0, len(told)-200):]))
	}
}

// An outcome's line, from the outcome alone.
func TestP2604EachNumber(t *testing.T) {
	o := api.Outcome{Err: 2, N: 3, At: 4, Value: "5", Steps: 6, Log: []string{"7", "", "8 9"}, Collections: []int{10, 11, 12, 13}}
	for end, told := range map[int]string{
		api.Done: "done 5", api.Failed: "failed 2 3", api.OutOfMemory: "memory", api.OutOfFuel: "fuel", api.Corrupt: "corrupt 4", api.Rejected: "rejected 2 4 3",
	} {
		o.End = end
		if text := outcomeText(o); text != told+" steps 6 collections 4\nlog 7\nlog \nlog 8 9\n" {
			t.Errorf("P2604: end %d: %q", end, text)
		}
	}
	if text := bytesText(nil); text != "bytes 0\n" {
		t.Errorf("P2603: no bytes: %q", text)
	}
	if text := bytesText([]byte{0, 9, 10, 15, 16, 160, 255}); text != "bytes 7 00090a0f10a0ff\n" {
		t.Errorf("P2603: bytes: %q", text)
	}
}
