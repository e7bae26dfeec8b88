package graph

import (
	"slices"
	"testing"

	"hearth/api"
)

func TestP1006New(t *testing.T) {
	h := New()
	if h == nil {
		t.Fatal("P1006: New is nil")
	}
	if g := whole(t, h); len(g.Nodes)+len(g.Roots) != 0 {
		t.Errorf("P1006: a new heap has %v", g)
	}
	for id := range 5 {
		if _, fault := h.Open(ref(id)); fault != no(30) {
			t.Errorf("P1006: a new heap has the node %d", id)
		}
	}
}

func TestP1006IdsAreNeverGivenAgain(t *testing.T) {
	h := New()
	for want := 1; want <= 30; want += 3 {
		a, b, c := made(t, h, 1, 0, 0), text(t, h, "x"), made(t, h, 11, 2, 0)
		if a != ref(want) || b != ref(want+1) || c != ref(want+2) {
			t.Fatalf("P1006: %v %v %v, want the Ids from %d on", a, b, c, want)
		}
		if r, fault := h.Collect([]api.Value{b}); fault.Err != 0 || r.Kept != 1 {
			t.Fatalf("P1006: Collect: %v %v", r, fault)
		}
	}
	if r, _ := h.Collect(nil); r != (api.Report{Freed: 1}) {
		t.Errorf("P1006: Collect: %v", r)
	}
	if v, _ := h.MakeTable(); v != ref(31) {
		t.Errorf("P1006: behind them: %v", v)
	}
}

// An Id is given to a node alone: what is refused takes none.
func TestP1006RefusedTakesNoId(t *testing.T) {
	h := New()
	h.Make(4, 0, 0)
	h.Make(12, 4, 0)
	h.MakeText(make([]byte, 4097))
	if v := made(t, h, 2, 0, 0); v != ref(1) {
		t.Errorf("P1006: the first node is %v", v)
	}
}

func TestP1007EachKind(t *testing.T) {
	for _, tag := range []int{0, 1, 5, -1, 63, 64, least, greatest} {
		h := New()
		for _, c := range []struct {
			kind, n int
			want    api.Node
		}{
			{1, 0, cell(0, 1, void, void)}, {2, 0, cell(0, 2, void)}, {3, 0, cell(0, 3)}, {3, 1, cell(0, 3, void)}, {3, 1023, cell(0, 3, repeat(void, 1023)...)},
			{5, 0, api.Node{Kind: 5, Raw: []int{0}}}, {6, 0, closure(0, tag)}, {6, 64, closure(0, tag, repeat(void, 64)...)}, {7, 0, cell(0, 7, null)},
			{8, 0, cell(0, 8, void, void)}, {9, 0, cell(0, 9, void, void)}, {10, 0, table(0)},
			{11, 0, api.Node{Kind: 11, Raw: []int{tag, 0, 0}, Fields: repeat(null, 2)}},
			{11, 128, api.Node{Kind: 11, Raw: []int{tag, 0, 0}, Fields: append(repeat(null, 2), repeat(void, 128)...)}},
		} {
			v := made(t, h, c.kind, c.n, tag)
			n, fault := h.Node(v)
			c.want.Id = v.N
			if fault.Err != 0 || !alike(n, c.want) {
				t.Errorf("P1007: Make(%d, %d, %d) is %v, %v", c.kind, c.n, tag, n, fault)
			}
		}
		takes(t, "P1007: what was made", whole(t, h))
	}
}

func TestP1007NoShape(t *testing.T) {
	h := New()
	made(t, h, 1, 0, 0)
	unchanged(t, "Make that is refused", h, func() {
		for kind := -1; kind <= 15; kind++ {
			for _, n := range append(wild(), -1, 0, 1, 2, 4, 64, 65, 128, 129, 512, 1023, 1024, 4096) {
				if kind >= 1 && kind <= 11 && n >= 0 && n <= parts[kind] {
					continue
				}
				if v, fault := h.Make(kind, n, 0); v != (api.Value{}) || fault != no(24) {
					t.Errorf("P1007: Make(%d, %d, 0) = %v, %v", kind, n, v, fault)
				}
			}
		}
		for _, kind := range wild() {
			if v, fault := h.Make(kind, 0, 0); v != (api.Value{}) || fault != no(24) {
				t.Errorf("P1007: Make(%d, 0, 0) = %v, %v", kind, v, fault)
			}
		}
	})
}

// street is a heap with a node of each kind and some more, by their names.
func street(t *testing.T) (*Heap, map[string]api.Value) {
	h := New()
	return h, map[string]api.Value{
		"pair": made(t, h, 1, 0, 9), "box": made(t, h, 2, 0, 9), "vector": made(t, h, 3, 4, 9), "empty": made(t, h, 3, 0, 9), "text": text(t, h, "hearth of words"), "flo": made(t, h, 5, 0, 9),
		"closure": made(t, h, 6, 3, 9), "other": made(t, h, 6, 0, -2), "cont": made(t, h, 7, 0, 9), "weak": made(t, h, 8, 0, 9), "eph": made(t, h, 9, 0, 9), "table": made(t, h, 10, 0, 9),
		"frame": made(t, h, 11, 3, 9), "bare": made(t, h, 11, 0, -2), "none": text(t, h, ""),
	}
}

func TestP1008Open(t *testing.T) {
	h, by := street(t)
	for name, want := range map[string]api.Block{
		"pair": {Kind: 1, Size: 3}, "box": {Kind: 2, Size: 2}, "vector": {Kind: 3, Size: 5}, "empty": {Kind: 3, Size: 1}, "text": {Kind: 4, Size: 4}, "none": {Kind: 4, Size: 2}, "flo": {Kind: 5, Size: 2},
		"closure": {Kind: 6, Size: 4, Tag: 9}, "other": {Kind: 6, Size: 1, Tag: -2}, "cont": {Kind: 7, Size: 2}, "weak": {Kind: 8, Size: 3}, "eph": {Kind: 9, Size: 3}, "table": {Kind: 10, Size: 3},
		"frame": {Kind: 11, Size: 8, Tag: 9}, "bare": {Kind: 11, Size: 5, Tag: -2},
	} {
		want.At, want.Serial = by[name].N, by[name].N
		if b, fault := h.Open(by[name]); b != want || fault.Err != 0 {
			t.Errorf("P1008: Open of %s: %v, %v, want %v", name, b, fault, want)
		}
	}
}

func TestP1008SizesAtTheEdges(t *testing.T) {
	h := New()
	for n, want := range map[int]int{0: 2, 1: 3, 7: 3, 8: 3, 9: 4, 4095: 514, 4096: 514} {
		if b, _ := h.Open(text(t, h, string(make([]byte, n)))); b.Size != want {
			t.Errorf("P1008: a text of %d bytes: %v", n, b)
		}
	}
	for c, want := range map[[2]int]int{{3, 1023}: 1024, {6, 64}: 65, {11, 128}: 133} {
		if b, _ := h.Open(made(t, h, c[0], c[1], 0)); b.Size != want {
			t.Errorf("P1008: the kind %d with %d parts: %v", c[0], c[1], b)
		}
	}
	m := made(t, h, 10, 0, 0)
	for i := range 20 {
		h.TablePut(m, fixnum(i), null)
	}
	if b, _ := h.Open(m); b.Size != 3 {
		t.Errorf("P1008: a table of 20 entries: %v", b)
	}
}

// refused asks all calls on a node, and tells a fault, if one does not answer ErrRef, or has changed anything.
func refused(t *testing.T, h *Heap, v api.Value) {
	t.Helper()
	want := no(30)
	unchanged(t, "a call that is refused", h, func() {
		if b, fault := h.Open(v); b != (api.Block{}) || fault != want {
			t.Errorf("P1008: Open(%v) = %v, %v", v, b, fault)
		}
		if s, fault := h.Text(v); len(s) != 0 || fault != want {
			t.Errorf("P1010: Text(%v) = %v, %v", v, s, fault)
		}
		if n, fault := h.Node(v); !alike(n, api.Node{}) || fault != want {
			t.Errorf("P1012: Node(%v) = %v, %v", v, n, fault)
		}
		for _, i := range []int{-1, 0, 1, 2, 3, 99} {
			x, fault := h.Get(v, i)
			w, fault2 := h.Raw(v, i)
			if x != (api.Value{}) || w != 0 || fault != want || fault2 != want || h.SetRaw(v, i, 7) != want {
				t.Errorf("P1009: words of %v: %v, %v; %d, %v", v, x, fault, w, fault2)
			}
			for _, x := range []api.Value{void, {}, ref(1)} {
				if h.Set(v, i, x) != want {
					t.Errorf("P1009: Set(%v, %d, %v) is not refused", v, i, x)
				}
			}
		}
		refusedTable(t, h, v, want)
	})
}

// refusedTable asks all calls on a table.
func refusedTable(t *testing.T, h *Heap, m api.Value, want api.Fault) {
	t.Helper()
	if n, fault := h.TableCount(m); n != 0 || fault != want {
		t.Errorf("P1011: TableCount(%v) = %d, %v", m, n, fault)
	}
	for _, k := range []api.Value{null, {}, ref(1), ref(1000)} {
		x, ok, fault := h.TableGet(m, k)
		gone, fault2 := h.TableDelete(m, k)
		sizes, fault3 := h.PutNeeds(m, k)
		if x != (api.Value{}) || ok || gone || len(sizes) != 0 || fault != want || fault2 != want || fault3 != want {
			t.Errorf("P1011: the table %v, the key %v: %v, %v, %v", m, k, fault, fault2, fault3)
		}
		for _, x := range []api.Value{null, {}} {
			if h.TablePut(m, k, x) != want {
				t.Errorf("P1011: TablePut(%v, %v, %v) is not refused", m, k, x)
			}
		}
	}
}

func TestP1008NoNode(t *testing.T) {
	h, by := street(t)
	dead := made(t, h, 2, 0, 0)
	var roots []api.Value
	for _, v := range by {
		roots = append(roots, v)
	}
	h.Collect(roots)
	for _, kind := range []int{-1, 0, 1, 3, 4, 5, 1<<32 + 2, greatest, least} {
		refused(t, h, api.Value{Kind: kind, N: 1})
	}
	for _, id := range append(wild(), 0, dead.N, dead.N+1, 100) {
		refused(t, h, ref(id))
	}
}

// words are the fields (f) and raw numbers (r) of the words 0, 1, 2, .. of the nodes of the street.
func words() map[string]string {
	return map[string]string{
		"pair": "-ff", "box": "-f", "vector": "-ffff", "empty": "-", "text": "----", "none": "--", "flo": "-r", "closure": "-fff", "other": "-",
		"cont": "-f", "weak": "-ff", "eph": "-ff", "table": "---", "frame": "-ffrrfff", "bare": "-ffrr",
	}
}

func TestP1009WhichWords(t *testing.T) {
	h, by := street(t)
	for name, list := range words() {
		for _, i := range append(wild(), 0, 1, 2, 3, 4, 5, 6, 7, 8, 9, 63, 64) {
			what := byte('-')
			if i >= 0 && i < len(list) {
				what = list[i]
			}
			fieldWord(t, h, by[name], i, what == 'f')
			rawWord(t, h, by[name], i, what == 'r')
		}
	}
}

func fieldWord(t *testing.T, h *Heap, v api.Value, i int, there bool) {
	t.Helper()
	x, fault := h.Get(v, i)
	if there {
		if fault.Err != 0 || h.Set(v, i, x) != (api.Fault{}) {
			t.Errorf("P1009: Get(%v, %d) = %v, %v", v, i, x, fault)
		}
		return
	}
	if x != (api.Value{}) || fault != no(32) || h.Set(v, i, null) != no(32) || h.Set(v, i, api.Value{}) != no(32) {
		t.Errorf("P1009: Get(%v, %d) = %v, %v: it is no field", v, i, x, fault)
	}
}

func rawWord(t *testing.T, h *Heap, v api.Value, i int, there bool) {
	t.Helper()
	x, fault := h.Raw(v, i)
	if there {
		if x != 0 || fault.Err != 0 {
			t.Errorf("P1009: Raw(%v, %d) = %d, %v", v, i, x, fault)
		}
		return
	}
	if x != 0 || fault != no(32) || h.SetRaw(v, i, 5) != no(32) {
		t.Errorf("P1009: Raw(%v, %d) = %v, %v: it is no raw word", v, i, x, fault)
	}
}

// Each word is one part of the node, its own: what is written there stands in the node where P1008 has it, and nowhere else.
func TestP1009OneWordAlone(t *testing.T) {
	for name, list := range words() {
		for i := range list {
			h, by := street(t)
			want := whole(t, h)
			n := found(want.Nodes, by[name].N)
			switch list[i] {
			case 'f':
				x := fixnum(77)
				if name == "cont" || (name == "frame" || name == "bare") && i == 1 {
					x = by["bare"]
				} else if name == "frame" && i == 2 {
					x = by["closure"]
				} else if name == "bare" && i == 2 {
					x = by["other"]
				}
				if f := h.Set(by[name], i, x); f != (api.Fault{}) {
					t.Errorf("P1009: Set of %s at %d: %v", name, i, f)
				}
				n.Fields[fieldOf(*n, i)] = x
				if got, f := h.Get(by[name], i); got != x || f.Err != 0 {
					t.Errorf("P1009: Get of %s at %d: %v, %v", name, i, got, f)
				}
			case 'r':
				if f := h.SetRaw(by[name], i, least); f != (api.Fault{}) {
					t.Errorf("P1009: SetRaw of %s at %d: %v", name, i, f)
				}
				n.Raw[rawOf(*n, i)] = least
				if got, f := h.Raw(by[name], i); got != least || f.Err != 0 {
					t.Errorf("P1009: Raw of %s at %d: %v, %v", name, i, got, f)
				}
			}
			if got := whole(t, h); !same(got, want) {
				t.Errorf("P1009: %s at %d: the heap is %v", name, i, got)
			}
		}
	}
}

// given are values of all sorts, of the street.
func given(h *Heap) []api.Value {
	list := append(natives(), strangers()...)
	for id := -2; id <= h.last+2; id++ {
		list = append(list, ref(id))
	}
	return list
}

func TestP1009Values(t *testing.T) {
	h, by := street(t)
	frames := []api.Value{null, by["frame"], by["bare"]}
	for name, list := range words() {
		for i := range list {
			if list[i] != 'f' {
				continue
			}
			for _, x := range given(h) {
				old, _ := h.Get(by[name], i)
				want := x.Kind == 2 && x.N >= 1 && x.N <= h.last && x != by["frame"] && x != by["bare"] || slices.Contains(natives(), x)
				switch {
				case name == "cont", (name == "frame" || name == "bare") && i == 1:
					want = slices.Contains(frames, x)
				case name == "frame" && i == 2:
					want = x == null || x == by["closure"]
				case name == "bare" && i == 2:
					want = x == null || x == by["other"]
				}
				fault := h.Set(by[name], i, x)
				got, _ := h.Get(by[name], i)
				if want && (fault.Err != 0 || got != x) || !want && (fault != no(33) || got != old) {
					t.Errorf("P1009: Set of %s at %d of %v: %v, it is %v", name, i, x, fault, got)
				}
			}
		}
	}
}

func TestP1010Texts(t *testing.T) {
	h := New()
	for n := range 600 {
		b := make([]byte, n)
		for i := range b {
			b[i] = byte(i*7 + n)
		}
		v, fault := h.MakeText(b)
		if v != ref(n+1) || fault.Err != 0 {
			t.Fatalf("P1010: MakeText of %d bytes: %v, %v", n, v, fault)
		}
		if s, fault := h.Text(v); !slices.Equal(s, b) || fault.Err != 0 {
			t.Errorf("P1010: Text of %d bytes: %v, %v", n, s, fault)
		}
	}
	takes(t, "P1010: texts", whole(t, h))
}

func TestP1010Edges(t *testing.T) {
	h := New()
	b := make([]byte, 4097)
	for i := range b {
		b[i] = 255
	}
	v, _ := h.MakeText(b[:4096])
	if s, fault := h.Text(v); len(s) != 4096 || slices.Min(s) != 255 || fault.Err != 0 {
		t.Errorf("P1010: a text of MaxText bytes: %d, %v", len(s), fault)
	}
	unchanged(t, "MakeText that is refused", h, func() {
		for _, b := range [][]byte{b, make([]byte, 5000), make([]byte, 1<<20)} {
			if v, fault := h.MakeText(b); v != (api.Value{}) || fault != no(24) {
				t.Errorf("P1010: MakeText of %d bytes: %v, %v", len(b), v, fault)
			}
		}
	})
	if v, fault := h.MakeText(nil); v != ref(2) || fault.Err != 0 {
		t.Errorf("P1010: MakeText(nil): %v, %v", v, fault)
	}
	if s, fault := h.Text(ref(2)); len(s) != 0 || fault.Err != 0 {
		t.Errorf("P1010: Text without bytes: %v, %v", s, fault)
	}
}

func TestP1010NoText(t *testing.T) {
	h, by := street(t)
	for name, v := range by {
		s, fault := h.Text(v)
		if name == "text" || name == "none" {
			if fault.Err != 0 {
				t.Errorf("P1010: Text of %s: %v", name, fault)
			}
		} else if len(s) != 0 || fault != no(31) {
			t.Errorf("P1010: Text of %s: %v, %v", name, s, fault)
		}
	}
}

func TestP1011MakeTable(t *testing.T) {
	h, other := New(), New()
	a, fault := h.MakeTable()
	b, _ := h.MakeTable()
	made(t, other, 10, 0, 0)
	made(t, other, 10, 0, 0)
	if a != ref(1) || b != ref(2) || fault.Err != 0 || !same(whole(t, h), whole(t, other)) {
		t.Errorf("P1011: MakeTable: %v, %v, %v, %v", a, b, fault, whole(t, h))
	}
	h.TablePut(a, null, null)
	if n, _ := h.TableCount(b); n != 0 {
		t.Errorf("P1011: another table has %d", n)
	}
}

func TestP1011GetPutDelete(t *testing.T) {
	h, by := street(t)
	m := by["table"]
	keys := natives()
	for _, name := range []string{"pair", "text", "none", "table", "weak", "eph", "cont", "closure", "other", "flo", "vector", "box", "empty"} {
		keys = append(keys, by[name])
	}
	for i, k := range keys {
		if x, ok, fault := h.TableGet(m, k); x != (api.Value{}) || ok || fault.Err != 0 {
			t.Errorf("P1011: TableGet of %v ahead: %v, %v, %v", k, x, ok, fault)
		}
		if gone, fault := h.TableDelete(m, k); gone || fault.Err != 0 {
			t.Errorf("P1011: TableDelete of %v ahead: %v, %v", k, gone, fault)
		}
		for _, v := range []api.Value{fixnum(i), keys[len(keys)-1-i]} {
			sizes, fault := h.PutNeeds(m, k)
			if len(sizes) != 0 || fault.Err != 0 || h.TablePut(m, k, v) != (api.Fault{}) {
				t.Errorf("P1011: put at %v: %v, %v", k, sizes, fault)
			}
			if x, ok, fault := h.TableGet(m, k); x != v || !ok || fault.Err != 0 {
				t.Errorf("P1011: TableGet of %v: %v, %v, %v, want %v", k, x, ok, fault, v)
			}
			if n, fault := h.TableCount(m); n != i+1 || fault.Err != 0 {
				t.Errorf("P1011: TableCount: %d, %v, want %d", n, fault, i+1)
			}
		}
	}
	takes(t, "P1011: a table of all keys", whole(t, h))
	for i, k := range keys {
		if gone, fault := h.TableDelete(m, k); !gone || fault.Err != 0 {
			t.Errorf("P1011: TableDelete of %v: %v, %v", k, gone, fault)
		}
		if n, _ := h.TableCount(m); n != len(keys)-1-i {
			t.Errorf("P1011: TableCount behind it: %d", n)
		}
	}
}

func TestP1011Refuses(t *testing.T) {
	h, by := street(t)
	m := by["table"]
	h.TablePut(m, null, fixnum(1))
	unchanged(t, "a call on a table that is refused", h, func() {
		for _, x := range append(strangers(), by["frame"], by["bare"], ref(0), ref(100)) {
			_, ok, fault := h.TableGet(m, x)
			gone, fault2 := h.TableDelete(m, x)
			sizes, fault3 := h.PutNeeds(m, x)
			if ok || gone || len(sizes) != 0 || fault != no(33) || fault2 != no(33) || fault3 != no(33) {
				t.Errorf("P1011: the key %v: %v, %v, %v", x, fault, fault2, fault3)
			}
			if h.TablePut(m, x, null) != no(33) || h.TablePut(m, null, x) != no(33) || h.TablePut(m, x, x) != no(33) {
				t.Errorf("P1011: TablePut of %v is not refused", x)
			}
		}
		for name, v := range by {
			if name != "table" {
				refusedTable(t, h, v, no(31))
			}
		}
	})
}

func TestP1011Fits(t *testing.T) {
	h := New()
	for _, sizes := range [][]int{nil, {0}, {1}, {1024}, {1025}, {-1}, {3, 1 << 40}, wild()} {
		if !h.Fits(sizes...) {
			t.Errorf("P1011: Fits(%v) is false", sizes)
		}
	}
}

func TestP1012EntriesRise(t *testing.T) {
	h := New()
	m := made(t, h, 10, 0, 0)
	for range 12 {
		made(t, h, 2, 0, 0)
	}
	for _, k := range []api.Value{char(1), ref(11), fixnum(10), ref(2), void, fixnum(-3), null, ref(1), fixnum(9), char(0)} {
		h.TablePut(m, k, k)
	}
	want := []api.Value{fixnum(-3), fixnum(9), fixnum(10), ref(1), ref(2), ref(11), null, void, char(0), char(1)}
	n, fault := h.Node(m)
	if fault.Err != 0 || len(n.Entries) != len(want) {
		t.Fatalf("P1012: Node: %v, %v", n, fault)
	}
	for i, e := range n.Entries {
		if e.Key != want[i] || e.Value != want[i] {
			t.Errorf("P1012: the entry %d is %v", i, e)
		}
	}
	if !alike(whole(t, h).Nodes[0], n) {
		t.Errorf("P1012: Graph has %v", whole(t, h).Nodes[0])
	}
}

func TestP1012Roots(t *testing.T) {
	h, by := street(t)
	nodes := whole(t, h).Nodes
	if len(nodes) != len(by) {
		t.Fatalf("P1012: Graph has %d nodes", len(nodes))
	}
	for _, x := range given(h) {
		want := slices.Contains(natives(), x) || x.Kind == 2 && x.N >= 1 && x.N <= h.last
		for _, roots := range [][]api.Value{{x}, {x, null}, {ref(1), x, x}} {
			g, fault := h.Graph(roots)
			if want && (fault.Err != 0 || !same(g, api.Graph{Nodes: nodes, Roots: roots})) || !want && (fault != no(33) || !same(g, api.Graph{})) {
				t.Errorf("P1012: Graph(%v) = %v, %v", roots, g, fault)
			}
		}
	}
}

func TestP1013Refuses(t *testing.T) {
	h, _ := street(t)
	unchanged(t, "Collect that is refused", h, func() {
		for _, x := range append(strangers(), ref(0), ref(100)) {
			for _, roots := range [][]api.Value{{x}, {x, null}, {ref(1), x}} {
				if r, fault := h.Collect(roots); r != (api.Report{}) || fault != no(33) {
					t.Errorf("P1013: Collect(%v) = %v, %v", roots, r, fault)
				}
			}
		}
	})
}

// Whatever the roots, the heap is what Collect makes of its graph.
func TestP1013AsTheGraph(t *testing.T) {
	for seed := range int64(60) {
		x := begun(seed)
		x.run(300)
		roots := x.roots()
		g, fault := x.h.Graph(roots)
		want, report, _ := Collect(g)
		r, fault2 := x.h.Collect(roots)
		if fault.Err != 0 {
			continue
		}
		if fault2.Err != 0 || r != report || !same(whole(t, x.h, roots...), want) {
			t.Fatalf("P1013: seed %d: Collect(%v) = %v, %v, want %v", seed, roots, r, fault2, report)
		}
	}
}

func TestP1006ToP1013ChapterExamples(t *testing.T) {
	h := New()
	a := made(t, h, 8, 0, 0)
	if b, f := h.Open(a); a != ref(1) || b != (api.Block{At: 1, Kind: 8, Size: 3, Serial: 1}) || f.Err != 0 {
		t.Errorf("P1008: Open: %v, %v", b, f)
	}
	x, _ := h.Get(a, 1)
	_, f := h.Get(a, 3)
	_, f2 := h.Raw(a, 1)
	if x != void || f != no(32) || f2 != no(32) {
		t.Errorf("P1009: %v, %v, %v", x, f, f2)
	}
	b := text(t, h, "hi")
	f = h.Set(a, 1, b)
	if s, _ := h.Text(b); b != ref(2) || f.Err != 0 || string(s) != "hi" {
		t.Errorf("P1010: %v, %v, %q", b, f, s)
	}
	c := made(t, h, 6, 1, 5)
	_, f = h.Raw(c, 1)
	if o, _ := h.Open(c); c != ref(3) || f != no(32) || o.Tag != 5 {
		t.Errorf("P1008: %v, %v, %v", c, f, o)
	}
	m, _ := h.MakeTable()
	f = h.TablePut(m, b, null)
	x, ok, _ := h.TableGet(m, b)
	if _, f2 = h.TableCount(a); m != ref(4) || f.Err != 0 || x != null || !ok || f2 != no(31) {
		t.Errorf("P1011: %v, %v, %v, %v, %v", m, f, x, ok, f2)
	}
	if r, f := h.Collect([]api.Value{a, m}); f.Err != 0 || r != (api.Report{Kept: 2, Freed: 2, Broken: 1, Pruned: 1}) {
		t.Errorf("P1013: %v, %v", r, f)
	}
	x, _ = h.Get(a, 1)
	n, _ := h.TableCount(m)
	_, f = h.Open(b)
	if d := made(t, h, 2, 0, 0); x != broken || n != 0 || f != no(30) || d != ref(5) {
		t.Errorf("P1013: behind it: %v, %d, %v, %v", x, n, f, d)
	}
}
