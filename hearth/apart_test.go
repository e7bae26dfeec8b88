package hearth

import (
	"math/rand"
	"runtime/debug"
	"slices"
	"strings"
	"sync"
	"testing"
	"time"
)

// Scripts without a rule, right ones and wrong ones, against the chapter's words.
func TestAnyScript(t *testing.T) {
	g := grower{rand.New(rand.NewSource(1))}
	told := map[string]int{}
	for range 800 {
		text := g.script()
		for range 3 {
			answer := plainly(t, "P2601 to P2604", text)
			for _, line := range strings.Split(answer, "\n") {
				word, _, _ := strings.Cut(line, " ")
				told[word]++
			}
			text = g.marred(text)
		}
		if t.Failed() {
			return
		}
	}
	for _, word := range []string{"error", "line", "bytes", "done", "failed", "memory", "fuel", "corrupt", "rejected", "log", "same", "words"} {
		if told[word] < 30 {
			t.Errorf("the test's scripts tell %q only %d times", word, told[word])
		}
	}
	if told["unlike"] > 0 {
		t.Errorf("P2404: %d runs are unlike the model's", told["unlike"])
	}
}

// Bytes of all sorts in the place of lines.
func TestAnyBytes(t *testing.T) {
	g := grower{rand.New(rand.NewSource(2))}
	for range 30000 {
		text := ""
		for range g.Intn(14) {
			text += g.of("\n", "\n", "\n", " ", " ", "|", "#", "\t", "\r", "\x00", "\xff", "é", "0", "1", "-", "a", "program ", "run ", "program a\n", "|func 0 0 0\n|fix 1\n|halt\n", "run a", "value a", "pages ", "fuel ", "force ", "poke ", "clear", "same a", "list a", "code a", "heap a", "model a")
		}
		plainly(t, "P2602", text)
		if t.Failed() {
			return
		}
	}
}

// What a line tells hangs on the lines ahead of it: what they tell alone comes first, whatever stands behind.
func TestP2605LinesAhead(t *testing.T) {
	g := grower{rand.New(rand.NewSource(3))}
	for range 60 {
		list := strings.SplitAfter(g.script(), "\n")
		whole := Play(strings.Join(list, ""))
		for range 12 {
			ahead := strings.Join(list[:g.Intn(len(list))], "")
			told := Play(ahead)
			if !strings.HasPrefix(whole, told) {
				t.Fatalf("P2605: %s tells %s, and with more behind %s", short(ahead), short(told), short(whole))
			}
			if other := Play(ahead + g.program(g.name()) + g.line()); !strings.HasPrefix(other, told) {
				t.Fatalf("P2605: %s tells %s, and with something else behind %s", short(ahead), short(told), short(other))
			}
		}
	}
}

// A line that asks for something leaves all as it was: asked once more, it tells the same; what is asked between makes no difference.
func TestP2605AskingTurnsNothing(t *testing.T) {
	g := grower{rand.New(rand.NewSource(4))}
	for range 150 {
		ahead := "fuel 300\npages 9\n" + g.program("a") + strings.Repeat(g.setting()+"\n", 2) + g.setting() + "\n"
		commands := []string{"code a\n", "list a\n", "run a\n", "model a\n", "same a\n", "heap a\n", "value a\n", "x\n", "run zz\n"}
		first := Play(ahead)
		want := map[string]string{}
		for _, c := range commands {
			want[c] = strings.TrimPrefix(Play(ahead+c), first)
		}
		text, told := ahead, first
		for range 20 {
			c := commands[g.Intn(len(commands))]
			text, told = text+c, told+want[c]
		}
		plays(t, "P2605", text, told)
	}
}

// No call has anything of another one.
func TestP2605AgainAndAgain(t *testing.T) {
	p := main("p", weak)
	for range 20 {
		plays(t, "P2605", "value p\nrun p\n|x\nx", "error 100\nerror 100\nerror 100\nerror 100\n")
		plays(t, "P2605", p+"run p\nheap p\n", "done (1 . 2) steps 7 collections 0\nwords 4096 blocks 5 free 61 found 0\n")
		plays(t, "P2605", p+"force 5\npages 9\nfuel 9\nrun p\nheap p\n", "done #!broken steps 7 collections 1\nwords 576 blocks 4 free 6 found 0\n")
		plays(t, "P2605", p+"poke 5 132 0\nfuel 3\nrun p\n", "fuel steps 3 collections 0\n")
		plays(t, "P2605", "program p\n|func 0 0 0\n", "")
		plays(t, "P2605", "|fix 5\nvalue p\n", "error 100\nerror 100\n")
	}
}

func TestP2605SideBySide(t *testing.T) {
	good := make([]bool, 8)
	var all sync.WaitGroup
	for w := range good {
		all.Go(func() {
			g := grower{rand.New(rand.NewSource(int64(w / 2)))}
			good[w] = true
			for range 30 {
				text := g.script()
				good[w] = good[w] && Play(text) == plainPlay(text)
			}
		})
	}
	all.Wait()
	if slices.Contains(good, false) {
		t.Errorf("P2605: side by side: %v", good)
	}
}

// soon makes a call on a stack on which nothing can be deep, and tells a fault, if it takes far too long.
func soon(t *testing.T, most time.Duration, call func()) {
	t.Helper()
	defer debug.SetMaxStack(debug.SetMaxStack(1 << 18))
	start := time.Now()
	call()
	if took := time.Since(start); took > most {
		t.Errorf("rule 1: it has taken %v", took)
	}
}

// The greatest texts of each sort of line, right ones and wrong ones.
func TestRule1GreatTexts(t *testing.T) {
	fill := func(ahead, with, behind string, lines int) string {
		n := min((1<<20-len(ahead)-len(behind))/len(with), lines-strings.Count(ahead+behind, "\n"))
		return ahead + strings.Repeat(with, n) + behind
	}
	five := main("p", "fix 5;return")
	soon(t, 20*time.Second, func() {
		plays(t, "rule 1", fill("x", " ", "\n", 1<<20), "error 100\n")
		plays(t, "rule 1", fill("run ", "p", "\n", 1<<20), "error 100\n")
		plays(t, "rule 1", fill("force", " 1", "\n", 1<<20), "error 100\n")
		plays(t, "rule 1", fill("pages ", "9", "\n", 1<<20), "error 100\n")
		plays(t, "rule 1", fill("pages -", "0", "\n", 1<<20), "error 100\n")
		plays(t, "rule 1", fill("", "|\n", "", 100000), strings.Repeat("error 100\n", 100000))
		plays(t, "rule 1", fill("program p\n", "|\n", "run p\n", 100000), "line 0\n")
		plays(t, "rule 1", fill("program p\n|func 0 0 0\n|fix 5\n|return\n", "|;\n", "value p\n", 100000), "5\n")
		plays(t, "rule 1", fill("program p\n|func 0 0 0\n|fix 5\n|return;", "x", "\nvalue p\n", 1<<20), "5\n")
		plays(t, "rule 1", fill(five, "program q\n", "value p\nvalue q\n", 100000), "5\nline 0\n")
		plays(t, "rule 1", fill(five+"pages 2\n", "value p\n", "", 100000), strings.Repeat("5\n", 99995))
		plays(t, "rule 1", fill(five, "list q\n", "", 100000), strings.Repeat("error 100\n", 99996))
		// A long program that is asked for again and again is not assembled each time.
		long := named("p", append(split("func 0 0 0;fix 5;return"), make([]string, 40000)...)...)
		plays(t, "rule 1", fill(long, "code p\n", "", 90000), strings.Repeat("bytes 14 6874680100000100000002010a13\n", 90000-40004))
		wrong := named("p", append(split("func 0 0 0;fix 5;x"), make([]string, 40000)...)...)
		plays(t, "rule 1", fill(wrong, "run p\n", "", 90000), strings.Repeat("line 3\n", 90000-40004))
	})
}

// Runs over structures without an end, in depth and in length.
func TestRule7DeepRuns(t *testing.T) {
	deep := named("h", hoard...)
	soon(t, 60*time.Second, func() {
		plays(t, "rule 7", deep+"pages 4096\nfuel 320000\nrun h\nmodel h\nheap h\n", strings.Repeat("fuel steps 320000 collections 0\n", 2)+"words 262144 blocks 64003 free 94 found 0\n")
		plays(t, "rule 7", deep+"pages 4096\nfuel 320000\nforce 300000\nrun h\nmodel h\n", strings.Repeat("fuel steps 320000 collections 1\n", 2))
	})
}
