package vm

import (
	"math/rand"
	"slices"
	"testing"

	"hearth/api"
	"hearth/audit"
	"hearth/code"
	"hearth/value"
)

// someNumbers are up to n numbers below most, in no order, some of them twice.
func someNumbers(r *rand.Rand, n, most int) []int {
	var out []int
	for range r.Intn(n + 1) {
		out = append(out, r.Intn(most)-3)
	}
	if len(out) > 0 && r.Intn(2) == 0 {
		out = append(out, out[0])
	}
	return out
}

// counts are how often things were met, so that a test can tell that it meets them.
type counts struct {
	ops    [76]int
	ends   [7]int
	report api.Report
	events [3]int
	short  int // collections that no script asked for
}

func (c *counts) add(v *VM, what int) {
	c.events[what]++
	if r := v.Report(); what == api.Collected {
		c.report.Freed += r.Freed
		c.report.Broken += r.Broken
		c.report.Cleared += r.Cleared
		c.report.Pruned += r.Pruned
	}
}

// nextOp is the instruction that comes next.
func nextOp(v *VM, p api.Program) int {
	d, at := v.Dump(), v.Roots()[0].N
	i := slices.IndexFunc(d.Blocks, func(b api.Block) bool { return b.At == at })
	return p.Funcs[d.Blocks[i].Tag].Code[d.Words[at+3]].Op
}

// Scripts of all sorts without corruptions: what DOC.md says event by event; the same program over a graph; the audit; where there was no room.
func TestP2302Random(t *testing.T) {
	var met counts
	for seed := range 160 {
		r := rand.New(rand.NewSource(int64(seed)))
		p := grownProgram(t, seed, true)
		s := scripted(t, p, 4+r.Intn(12), r.Intn(1500))
		s.Force = someNumbers(r, 25, 1500)
		want := plainRun(t, s, p)
		follows(t, s, want)
		v, w := New(s), twinOf(t, p)
		for i := 0; ; i++ {
			op, dump := nextOp(v, p), v.Dump()
			sizes, _ := v.Needs()
			last := want[max(0, i-1)].what
			what := v.Step()
			met.add(v, what)
			w.follow(t, v, what)
			if i%11 == 0 || what != api.Executed {
				w.stands(t, v)
			}
			room := fitsPlainly(dump, sizes)
			end := v.Outcome().End
			if what == api.Executed && !room || end == api.OutOfMemory && (room || i == 0 || last != api.Collected) {
				t.Errorf("W4: event %d is %d, though there is room: %v", i, what, room)
			}
			if what == api.Collected && !slices.Contains(s.Force, v.Steps()) {
				met.short++
				if room {
					t.Errorf("W4: event %d: a collection, though there is room for %v", i, sizes)
				}
			}
			if t.Failed() {
				t.Fatalf("seed %d", seed)
			}
			if what == api.Executed && end != api.Failed {
				met.ops[op]++
			}
			if what == api.Ended {
				met.ends[end]++
				break
			}
		}
	}
	met.enough(t)
}

// enough tells a fault, if too little was met.
func (c *counts) enough(t *testing.T) {
	t.Helper()
	for op, n := range c.ops {
		if (op >= 1 && op < api.OpHalt || op >= 30) && n < 20 {
			t.Errorf("the test makes the instruction %d only %d times", op, n)
		}
	}
	for _, end := range []int{api.Done, api.Failed, api.OutOfMemory, api.OutOfFuel} {
		if c.ends[end] < 10 {
			t.Errorf("the test's runs end %v", c.ends)
		}
	}
	if x := c.report; x.Freed < 5000 || x.Broken < 30 || x.Cleared < 30 || x.Pruned < 30 || c.short < 100 {
		t.Errorf("the test's collections are %+v, %d of them for want of room", x, c.short)
	}
}

// badWord is a word for an index of a dump: a wrong one, mostly.
func badWord(r *rand.Rand, d api.Dump, at int) int {
	some := d.Blocks[r.Intn(len(d.Blocks))].At
	switch r.Intn(8) {
	case 0:
		return 0
	case 1:
		return d.Words[at] ^ 1<<r.Intn(64)
	case 2:
		return wordOf(ref(some))
	case 3:
		return wordOf(value.Fix(r.Intn(9)))
	case 4:
		return wordOf(value.Imm(r.Intn(6)))
	case 5:
		return d.Words[some]
	case 6:
		return d.Words[r.Intn(len(d.Words))]
	}
	return r.Int() - r.Int()
}

// badPlace is an index of a dump at which a corruption matters, mostly.
func badPlace(r *rand.Rand, d api.Dump) int {
	b := d.Blocks[r.Intn(len(d.Blocks))]
	switch r.Intn(6) {
	case 0:
		return b.At
	case 1:
		if c := r.Intn(8); d.Heads[c] >= 0 {
			return d.Heads[c]
		}
	case 2:
		return r.Intn(len(d.Words))
	case 3:
		if last := d.Blocks[len(d.Blocks)-1-r.Intn(min(3, len(d.Blocks)))]; last.Size > 1 {
			return last.At + 1 + r.Intn(last.Size-1)
		}
	}
	return b.At + r.Intn(b.Size)
}

// corrupting is a script with up to n corruptions more, each made for what its run is at that step.
func corrupting(r *rand.Rand, s api.Script, n int) api.Script {
	step := 0
	for range n {
		step += r.Intn(1 + 2*s.Fuel/n)
		v := New(s)
		for v.Steps() < step && v.Step() != api.Ended {
		}
		if v.Outcome().End != api.Running {
			break
		}
		d := v.Dump()
		at := badPlace(r, d)
		s.Pokes = append(s.Pokes, api.Poke{Step: v.Steps(), At: at, Word: badWord(r, d, at)})
	}
	r.Shuffle(len(s.Pokes), func(i, j int) {
		if s.Pokes[i].Step != s.Pokes[j].Step {
			s.Pokes[i], s.Pokes[j] = s.Pokes[j], s.Pokes[i]
		}
	})
	return s
}

// written notes which words the corruptions of a boundary turn into others.
func written(s api.Script, step int, words []int, turned map[int]int) {
	for _, p := range s.Pokes {
		if p.Step == step && p.At >= 0 && p.At < len(words) {
			if words[p.At] != p.Word {
				turned[p.At]++
			}
			words[p.At] = p.Word
		}
	}
}

// Scripts with corruptions: what DOC.md says event by event; a run ends Corrupt only at a word that a corruption has turned; a collection leaves no wrong header.
func TestP2305Random(t *testing.T) {
	ends := map[int]int{}
	met, passed := map[int]int{}, 0 // wrong words that instructions met (Corrupt) and collections (Running), and how many collections were made behind corruptions
	for seed := range 450 {
		r := rand.New(rand.NewSource(int64(seed)))
		p := grownProgram(t, seed%90, true)
		s := scripted(t, p, 4+r.Intn(14), 100+r.Intn(700))
		s.Force = someNumbers(r, 12, 500)
		s = corrupting(r, s, 1+r.Intn(5))
		want := plainRun(t, s, p)
		follows(t, s, want)
		v, turned, boundary := New(s), map[int]int{}, -1
		for _, x := range want {
			if step := v.Steps(); step != boundary && step != s.Fuel && v.Running() {
				boundary = step
				written(s, step, v.Dump().Words, turned)
			}
			v.Step()
			if x.what == api.Collected {
				checkHeaders(t, v)
				passed += min(1, len(turned))
			}
		}
		end := v.Outcome()
		ends[end.End]++
		if end.End == api.Corrupt {
			met[want[max(0, len(want)-2)].outcome.End]++
			if turned[end.At] == 0 || !slices.ContainsFunc(s.Pokes, func(p api.Poke) bool { return p.At == end.At && p.Step <= end.Steps }) {
				t.Errorf("P2305: Corrupt at %d, which no corruption has turned: %v", end.At, s.Pokes)
			}
		}
		if t.Failed() {
			t.Fatalf("seed %d: %+v", seed, v.Outcome())
		}
	}
	if ends[api.Corrupt] < 150 || ends[api.Done] < 5 || ends[api.Failed] < 20 || ends[api.OutOfMemory] < 10 || ends[api.OutOfFuel] < 50 || passed < 50 || met[api.Running] < 50 || met[api.Corrupt] < 50 {
		t.Errorf("the test's runs end %v; %d collections behind corruptions; %v", ends, passed, met)
	}
}

// checkHeaders tells a fault, if a collection has gone by a wrong header or link: W5.
func checkHeaders(t *testing.T, v *VM) {
	t.Helper()
	for _, f := range audit.Check(v.Dump()) {
		if f.What == api.FindHeader || f.What == api.FindLink {
			t.Errorf("W5: behind a collection at %d: %v", v.Steps(), f)
		}
	}
}

// Rows of bytes that are hardly programs, and numbers without a rule: every script has one outcome.
func TestW6EveryScript(t *testing.T) {
	ends := map[int]int{}
	for seed := range 3000 {
		r := rand.New(rand.NewSource(int64(seed)))
		row, _ := code.Write(grownProgram(t, seed%40, true))
		for range r.Intn(3) {
			row[r.Intn(len(row))] = byte(r.Intn(80))
		}
		s := api.Script{Program: row[:len(row)-r.Intn(2)*r.Intn(9)], Pages: r.Intn(25) - 1, Fuel: r.Intn(200) - 1, Force: someNumbers(r, 9, 200)}
		for range r.Intn(6) {
			s.Pokes = append(s.Pokes, api.Poke{Step: r.Intn(120) - 2, At: r.Intn(1500) - 9, Word: r.Int() - r.Int()})
		}
		o := Run(s)
		ends[o.End]++
		if o.End == api.Running || o.Steps > max(0, s.Fuel) {
			t.Fatalf("W6: seed %d: %+v", seed, o)
		}
		tells(t, "W9", Run(s), o)
		if o.End == api.Rejected && (o.Err == api.OK || o.Steps > 0) || o.End != api.Rejected && o.End != api.Failed && o.Err != api.OK {
			t.Fatalf("W6: seed %d: %+v", seed, o)
		}
	}
	for end := api.Done; end <= api.Rejected; end++ {
		if ends[end] < 5 {
			t.Errorf("the test's runs end %v", ends)
		}
	}
}

// Collections are not seen by a program that does not observe.
func TestW3Random(t *testing.T) {
	ends, collected := map[int]int{}, 0
	for seed := range 120 {
		r := rand.New(rand.NewSource(int64(seed)))
		p := grownProgram(t, 5000+seed, false)
		s := scripted(t, p, 300+r.Intn(300), 900)
		want := Run(s)
		w := twinOf(t, p)
		for w.Steps() < s.Fuel && w.Step() {
		}
		w.Stop(api.OutOfFuel, 0)
		ends[want.End]++
		want.Collections = nil
		tells(t, "W3: the graph", w.Outcome(), want)
		for range 3 {
			s.Pages, s.Force = 120+r.Intn(300), someNumbers(r, 60, 900)
			have := Run(s)
			if have.End == api.OutOfMemory {
				continue
			}
			collected += len(have.Collections)
			have.Collections = nil
			tells(t, "W3", have, want)
		}
		if t.Failed() {
			t.Fatalf("seed %d", seed)
		}
	}
	if ends[api.OutOfFuel] < 20 || ends[api.Done] < 5 || ends[api.Failed] < 5 || collected < 2000 {
		t.Errorf("the test's runs end %v; %d collections", ends, collected)
	}
}
