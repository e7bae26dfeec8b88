package prim

import (
	"fmt"
	"slices"
	"testing"

	"hearth/api"
)

// apart are right operands of an instruction; where it takes two objects of one kind, they are two.
func apart(t testing.TB, h Heap, op int) list {
	t.Helper()
	args := slices.Clone(worldOf(t, h).right()[op])
	if op == 44 {
		args[1] = text(t, h, "another one")
	}
	if op >= 54 && op <= 58 {
		args[1] = flo(t, h, 0x3FE0000000000000) // 0.5
	}
	return args
}

// asks are the calls that an instruction makes with operands of apart, behind those that open them for their types; new is the object that it makes.
func asks(args list, op int, new val) []string {
	a := append(slices.Clone(args), val{}, val{}, val{})
	say := func(name string, args ...any) string { return fmt.Sprint(append([]any{name}, args...)...) }
	built := func(kind int, words ...val) []string {
		out := []string{say("Make", kind, 0, 0)}
		for i, x := range words {
			out = append(out, say("Set", new, 1+i, x))
		}
		return out
	}
	two := []string{say("Raw", a[0], 1), say("Raw", a[1], 1)}
	float := func(bits int) []string { return append(built(5), say("SetRaw", new, 1, bits)) }
	switch op {
	case 30:
		return built(1, a[0], a[1])
	case 35:
		return built(2, a[0])
	case 63:
		return built(8, a[0], a[1])
	case 67:
		return built(9, a[0], a[1])
	case 31, 36, 64, 68:
		return []string{say("Get", a[0], 1)}
	case 32, 65, 69:
		return []string{say("Get", a[0], 2)}
	case 33, 37:
		return []string{say("Set", a[0], 1, a[1])}
	case 34, 66:
		return []string{say("Set", a[0], 2, a[1])}
	case 38:
		return []string{say("Make", 3, 3, 0), say("Set", new, 1, a[1]), say("Set", new, 2, a[1]), say("Set", new, 3, a[1])}
	case 39:
		return []string{say("Get", a[0], 2)}
	case 40:
		return []string{say("Set", a[0], 3, a[2])}
	case 42, 43:
		return []string{say("Text", a[0])}
	case 44:
		return []string{say("Text", a[0]), say("Text", a[1])}
	case 46:
		return opens(a[0])
	case 54:
		return append(two, float(0x4000000000000000)...)
	case 55:
		return append(two, float(0x3FF0000000000000)...)
	case 56:
		return append(two, float(0x3FE8000000000000)...)
	case 57:
		return append(two, float(0x4008000000000000)...)
	case 58:
		return two
	case 59:
		return float(0x4014000000000000)
	case 60:
		return two[:1]
	case 70:
		return []string{say("MakeTable")}
	case 71:
		return []string{say("TableGet", a[0], a[1])}
	case 72:
		return []string{say("TablePut", a[0], a[1], a[2])}
	case 73:
		return []string{say("TableDelete", a[0], a[1])}
	case 74:
		return []string{say("TableCount", a[0])}
	}
	return nil
}

// Each instruction asks the heap for just what the table says, in that order.
func TestP2104Calls(t *testing.T) {
	for _, op := range all() {
		each(t, func(t *testing.T, h Heap) {
			args := apart(t, h, op)
			_, opened := typed(h, types()[op], args)
			s := watch(h)
			v, fail := Do(s, op, args)
			if fail != fine {
				t.Fatalf("P2104: Do(%d, %v): %v", op, args, fail)
			}
			if want := append(opens(opened...), asks(args, op, v)...); !slices.Equal(s.calls, want) {
				t.Errorf("P2104: Do(%d, %v) asks %v, want %v", op, args, s.calls, want)
			}
		})
	}
}

// Needs asks for the types, for the bits of floats and for what a put needs, and for nothing else.
func TestP2105Calls(t *testing.T) {
	each(t, func(t *testing.T, h Heap) {
		for _, op := range all() {
			args := apart(t, h, op)
			_, opened := typed(h, types()[op], args)
			want := opens(opened...)
			switch op {
			case 54, 55, 56, 57:
				want = append(want, fmt.Sprint("Raw", args[0], 1), fmt.Sprint("Raw", args[1], 1))
			case 72:
				want = append(want, fmt.Sprint("PutNeeds", args[0], args[1]))
			}
			s := watch(h)
			if _, fail := Needs(s, op, args); fail != fine || !slices.Equal(s.calls, want) {
				t.Errorf("P2105: Needs(%d, %v): %v asks %v, want %v", op, args, fail, s.calls, want)
			}
		}
	})
}

// reads are the words, by the operand's number and the word's, that an instruction reads of its operands' own objects (a header is the word 0). Those of tables are chapter 12's.
func reads() map[int][][2]int {
	one := [][2]int{{0, 0}}
	both := [][2]int{{0, 0}, {1, 0}}
	first, second := [][2]int{{0, 0}, {0, 1}}, [][2]int{{0, 0}, {0, 2}}
	return map[int][][2]int{
		31: first, 32: second, 33: one, 34: one, 36: first, 37: one,
		39: second, 40: one, 41: one, 42: one, 43: one, 44: both, 46: one,
		54: both, 55: both, 56: both, 57: both, 58: both, 60: one,
		64: first, 65: second, 66: one, 68: first, 69: second, 74: one,
	}
}

// Of all words of all objects, each made wrong in turn, an instruction tells just those that it reads.
func TestP2104Words(t *testing.T) {
	for _, op := range all() {
		if op >= 71 && op <= 73 {
			continue
		}
		h := arena(t, 20)
		args := apart(t, h, op)
		told := map[int]bool{}
		for _, x := range reads()[op] {
			told[args[x[0]].N+x[1]] = true
		}
		roles := raws(h.Blocks())
		for _, b := range h.Blocks() {
			for i := range b.Size {
				at := b.At + i
				old, _ := h.Peek(at)
				h.Poke(at, 6) // no value, no header
				_, fail := Do(h, op, args)
				want := fine
				if told[at] {
					want = wrongAt(at)
				}
				if fail != want && !roles[at] {
					t.Errorf("P2104: Do(%d, %v) with a wrong word at %d (%d of %v): %v, want %v", op, args, at, i, b, fail, want)
				}
				h.Poke(at, old)
			}
		}
	}
}

// raws are the indices of the raw words of texts, floats, tables and frames: none of them can be wrong.
func raws(blocks []api.Block) map[int]bool {
	out := map[int]bool{}
	for _, b := range blocks {
		for i := 1; i < b.Size; i++ {
			out[b.At+i] = b.Kind == 4 || b.Kind == 5 || b.Kind == 10 && i == 1 || b.Kind == 11 && (i == 3 || i == 4)
		}
	}
	return out
}

// An index that is not there is told ahead of a wrong word; setting puts a wrong word right, unseen.
func TestP2104Order(t *testing.T) {
	h := arena(t, 10)
	v := vec(t, h, fixed(1), fixed(2), fixed(3))
	for i := range 3 {
		h.Poke(v.N+1+i, 6)
	}
	for _, i := range []int{-1, 3} {
		answers(t, "P2104", h, 39, list{v, fixed(i)}, val{}, failureN(api.ErrIndex, i))
		answers(t, "P2104", h, 40, list{v, fixed(i), null()}, val{}, failureN(api.ErrIndex, i))
	}
	answers(t, "P2104", h, 39, list{v, fixed(1)}, val{}, wrongAt(v.N+2))
	answers(t, "P2104", h, 40, list{v, fixed(1), null()}, nought(), fine)
	answers(t, "P2104", h, 39, list{v, fixed(1)}, null(), fine)
	answers(t, "P2104", h, 39, list{v, fixed(2)}, val{}, wrongAt(v.N+3))
	for _, x := range []struct{ make, set, get, word int }{{30, 33, 31, 1}, {30, 34, 32, 2}, {63, 66, 65, 2}} {
		p := makes(t, "P2104", h, x.make, fixed(1), fixed(2))
		h.Poke(p.N+x.word, 6)
		answers(t, "P2104", h, x.get, list{p}, val{}, wrongAt(p.N+x.word))
		answers(t, "P2104", h, x.set, list{p, yes()}, nought(), fine)
		answers(t, "P2104", h, x.get, list{p}, yes(), fine)
	}
	b := makes(t, "P2104", h, 35, fixed(1))
	h.Poke(b.N+1, 6)
	answers(t, "P2104", h, 36, list{b}, val{}, wrongAt(b.N+1))
	answers(t, "P2104", h, 37, list{b, yes()}, nought(), fine)
	answers(t, "P2104", h, 36, list{b}, yes(), fine)
}

// On tables an instruction tells what the heap's own call tells, whatever words are wrong, and does the same.
func TestP2104Tables(t *testing.T) {
	build := func() (Heap, world, func(at, w int) bool, []api.Block) {
		h := arena(t, 20)
		w := worldOf(t, h)
		for i := range 5 {
			sound(t, h.TablePut(w.table, fixed(20+i), w.pair))
		}
		return h, w, h.Poke, h.Blocks()
	}
	_, _, _, blocks := build()
	for _, b := range blocks {
		if b.Kind != 10 && b.Kind != 12 && b.Kind != 13 {
			continue
		}
		for i := range b.Size {
			for _, k := range []int{7, 8, 20, 24} {
				for op := 71; op <= 73; op++ {
					h, w, poke, _ := build()
					twin, _, pokeTwin, _ := build()
					poke(b.At+i, 6)
					pokeTwin(b.At+i, 6)
					args := list{w.table, fixed(k), w.box}[:Takes(op)]
					v, fail := Do(h, op, args)
					want, fault := direct(twin, op, args)
					if v != want || fail != (api.Fail{Err: fault.Err, At: fault.At}) {
						t.Errorf("P2104: Do(%d, %v), wrong at word %d of %v: %v, %v, want %v, %v", op, args, i, b, v, fail, want, fault)
					}
					alike(t, h, twin)
				}
			}
		}
	}
}

// direct is what the heap's own call answers for an instruction on a table.
func direct(h Heap, op int, args list) (val, api.Fault) {
	out, fault := nought(), api.Fault{}
	switch op {
	case 71:
		var found bool
		out, found, fault = h.TableGet(args[0], args[1])
		if !found {
			out = args[2]
		}
	case 72:
		fault = h.TablePut(args[0], args[1], args[2])
	case 73:
		_, fault = h.TableDelete(args[0], args[1])
	}
	if fault.Err != api.OK {
		return val{}, fault
	}
	return out, fault
}

// alike tells a fault, if two heaps are not the same, word by word.
func alike(t *testing.T, a, b Heap) {
	t.Helper()
	if x, y := fmt.Sprint(whole(a)), fmt.Sprint(whole(b)); x != y {
		t.Errorf("P2104: the heaps differ")
	}
}
