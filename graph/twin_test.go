package graph

import (
	"bytes"
	"math/rand"
	"slices"
	"testing"

	"hearth/api"
)

// twin is a heap as the chapter's words have it: its nodes in a list, rising.
type twin struct {
	nodes []api.Node
	last  int
}

func (p *twin) node(v api.Value) *api.Node {
	if v.Kind != 2 {
		return nil
	}
	return found(p.nodes, v.N)
}

func (p *twin) add(n api.Node) (api.Value, api.Fault) {
	p.last++
	n.Id = p.last
	p.nodes = append(p.nodes, n)
	return ref(p.last), api.Fault{}
}

// parts is how many parts the kinds have at most; -1: none is made by Make.
var parts = [12]int{-1, 0, 0, 1023, -1, 0, 64, 0, 0, 0, 0, 128}

func (p *twin) make(kind, n, tag int) (api.Value, api.Fault) {
	if kind < 1 || kind > 11 || n < 0 || n > parts[kind] {
		return api.Value{}, no(24)
	}
	out := api.Node{Kind: kind}
	switch kind {
	case 1, 8, 9:
		out.Fields = repeat(void, 2)
	case 2:
		out.Fields = repeat(void, 1)
	case 3:
		out.Fields = repeat(void, n)
	case 5:
		out.Raw = []int{0}
	case 6:
		out.Raw, out.Fields = []int{tag}, repeat(void, n)
	case 7:
		out.Fields = repeat(null, 1)
	case 11:
		out.Raw, out.Fields = []int{tag, 0, 0}, append(repeat(null, 2), repeat(void, n)...)
	}
	return p.add(out)
}

func (p *twin) makeText(b []byte) (api.Value, api.Fault) {
	if len(b) > 4096 {
		return api.Value{}, no(24)
	}
	n := api.Node{Kind: 4}
	for _, c := range b {
		n.Raw = append(n.Raw, int(c))
	}
	return p.add(n)
}

// sizeOf is how many words a node's object has.
func sizeOf(n api.Node) int {
	switch n.Kind {
	case 3, 6:
		return 1 + len(n.Fields)
	case 4:
		return 2 + (len(n.Raw)+7)/8
	case 11:
		return 3 + len(n.Fields)
	}
	return [12]int{1: 3, 2: 2, 5: 2, 7: 2, 8: 3, 9: 3, 10: 3}[n.Kind]
}

func (p *twin) open(v api.Value) (api.Block, api.Fault) {
	n := p.node(v)
	if n == nil {
		return api.Block{}, no(30)
	}
	b := api.Block{At: n.Id, Kind: n.Kind, Size: sizeOf(*n), Serial: n.Id}
	if n.Kind == 6 || n.Kind == 11 {
		b.Tag = n.Raw[0]
	}
	return b, api.Fault{}
}

// fieldOf is which field a node's word i is, -1 if it is none.
func fieldOf(n api.Node, i int) int {
	k := i - 1
	if n.Kind == 11 && i >= 3 {
		k = i - 3
		if i < 5 {
			k = -1
		}
	}
	if i < 1 || k >= len(n.Fields) {
		return -1
	}
	return k
}

// rawOf is which raw number a node's word i is, -1 if it is none.
func rawOf(n api.Node, i int) int {
	switch {
	case n.Kind == 5 && i == 1:
		return 0
	case n.Kind == 11 && i == 3:
		return 1
	case n.Kind == 11 && i == 4:
		return 2
	}
	return -1
}

func (p *twin) get(v api.Value, i int) (api.Value, api.Fault) {
	n := p.node(v)
	if n == nil {
		return api.Value{}, no(30)
	}
	if fieldOf(*n, i) < 0 {
		return api.Value{}, no(32)
	}
	return n.Fields[fieldOf(*n, i)], api.Fault{}
}

func (p *twin) set(v api.Value, i int, x api.Value) api.Fault {
	if _, fault := p.get(v, i); fault.Err != 0 {
		return fault
	}
	n := p.node(v)
	if !mayPlain(p.nodes, *n, fieldOf(*n, i), x) {
		return no(33)
	}
	n.Fields[fieldOf(*n, i)] = x
	return api.Fault{}
}

func (p *twin) raw(v api.Value, i int) (int, api.Fault) {
	n := p.node(v)
	if n == nil {
		return 0, no(30)
	}
	if rawOf(*n, i) < 0 {
		return 0, no(32)
	}
	return n.Raw[rawOf(*n, i)], api.Fault{}
}

func (p *twin) setRaw(v api.Value, i, x int) api.Fault {
	_, fault := p.raw(v, i)
	if fault.Err == 0 {
		n := p.node(v)
		n.Raw[rawOf(*n, i)] = x
	}
	return fault
}

func (p *twin) text(v api.Value) ([]byte, api.Fault) {
	n := p.node(v)
	if n == nil {
		return nil, no(30)
	}
	if n.Kind != 4 {
		return nil, no(31)
	}
	var out []byte
	for _, b := range n.Raw {
		out = append(out, byte(b))
	}
	return out, api.Fault{}
}

// table is the table of t, and where the key stands among its entries, or would.
func (p *twin) table(t, k, v api.Value) (*api.Node, int, bool, api.Fault) {
	n := p.node(t)
	if n == nil {
		return nil, 0, false, no(30)
	}
	if n.Kind != 10 {
		return nil, 0, false, no(31)
	}
	if !plainValue(p.nodes, k) || !plainValue(p.nodes, v) {
		return nil, 0, false, no(33)
	}
	for i, e := range n.Entries {
		if !lessPlain(e.Key, k) {
			return n, i, e.Key == k, api.Fault{}
		}
	}
	return n, len(n.Entries), false, api.Fault{}
}

func (p *twin) tableGet(t, k api.Value) (api.Value, bool, api.Fault) {
	n, i, ok, fault := p.table(t, k, null)
	if !ok {
		return api.Value{}, false, fault
	}
	return n.Entries[i].Value, true, fault
}

func (p *twin) tablePut(t, k, v api.Value) api.Fault {
	n, i, ok, fault := p.table(t, k, v)
	if fault.Err != 0 {
		return fault
	}
	if ok {
		n.Entries[i].Value = v
	} else {
		n.Entries = slices.Insert(n.Entries, i, api.Entry{Key: k, Value: v})
	}
	return fault
}

func (p *twin) tableDelete(t, k api.Value) (bool, api.Fault) {
	n, i, ok, fault := p.table(t, k, null)
	if ok {
		n.Entries = slices.Delete(n.Entries, i, i+1)
	}
	return ok, fault
}

func (p *twin) tableCount(t api.Value) (int, api.Fault) {
	n, _, _, fault := p.table(t, null, null)
	if fault.Err != 0 {
		return 0, fault
	}
	return len(n.Entries), fault
}

func (p *twin) graph(roots []api.Value) (api.Graph, api.Fault) {
	for _, v := range roots {
		if !rootPlain(p.nodes, v) {
			return api.Graph{}, no(33)
		}
	}
	return api.Graph{Nodes: p.nodes, Roots: roots}, api.Fault{}
}

func (p *twin) collect(roots []api.Value) (api.Report, api.Fault) {
	g, fault := p.graph(roots)
	if fault.Err != 0 {
		return api.Report{}, fault
	}
	g, r := collectPlain(g)
	p.nodes = g.Nodes
	return r, fault
}

// made is a node that is to be made.
func made(t testing.TB, h *Heap, kind, n, tag int) api.Value {
	t.Helper()
	v, fault := h.Make(kind, n, tag)
	if fault != (api.Fault{}) || v.Kind != 2 {
		t.Fatalf("P1007: Make(%d, %d, %d) = %v, %v", kind, n, tag, v, fault)
	}
	return v
}

// text is a text that is to be made.
func text(t testing.TB, h *Heap, s string) api.Value {
	t.Helper()
	v, fault := h.MakeText([]byte(s))
	if fault != (api.Fault{}) || v.Kind != 2 {
		t.Fatalf("P1010: MakeText(%d bytes) = %v, %v", len(s), v, fault)
	}
	return v
}

// whole is all that a heap has.
func whole(t testing.TB, h *Heap, roots ...api.Value) api.Graph {
	t.Helper()
	g, fault := h.Graph(roots)
	if fault != (api.Fault{}) {
		t.Fatalf("P1012: Graph(%v): %v", roots, fault)
	}
	return g
}

// unchanged makes a call, and tells a fault, if the heap is not as it was.
func unchanged(t testing.TB, what string, h *Heap, call func()) {
	t.Helper()
	old := whole(t, h)
	call()
	if !same(old, whole(t, h)) {
		t.Errorf("rule 2: %s has changed the heap", what)
	}
}

// past tells a heap and a plain one the same, without a rule, and looks whether they answer alike.
type past struct {
	h      *Heap
	p      *twin
	source *rand.Rand
	rare   int // of so many turns that may collect one does
}

func begun(seed int64) *past {
	return &past{New(), &twin{}, rand.New(rand.NewSource(seed)), 3 << (seed % 5)}
}

func (x *past) pick(list []int) int { return list[x.source.Intn(len(list))] }

// id is most often a node's, and more often a young one's.
func (x *past) id() int {
	if n := len(x.p.nodes); n > 0 && x.source.Intn(12) > 0 {
		return x.p.nodes[n-1-x.source.Intn(min(n, 40))].Id
	}
	if x.source.Intn(8) == 0 {
		return x.pick(wild())
	}
	return x.source.Intn(x.p.last + 3)
}

// value is most often one that may stand somewhere.
func (x *past) value() api.Value {
	switch x.source.Intn(12) {
	case 0:
		return fixnum(x.source.Intn(9) - 4)
	case 1:
		return null
	case 2:
		return api.Value{Kind: x.source.Intn(7) - 1, N: x.source.Intn(12) - 2}
	case 3:
		list := strangers()
		return list[x.source.Intn(len(list))]
	}
	return ref(x.id())
}

// object is most often a reference to a node; of a kind, if one of it comes up soon.
func (x *past) object(kind int) api.Value {
	if x.source.Intn(20) == 0 {
		return x.value()
	}
	v := ref(x.id())
	for range 20 {
		if n := x.p.node(v); kind == 0 || n != nil && n.Kind == kind {
			break
		}
		v = ref(x.id())
	}
	return v
}

// word is most often a word's number that the node of v has.
func (x *past) word(v api.Value) int {
	if n := x.p.node(v); n != nil && x.source.Intn(6) > 0 {
		return x.source.Intn(sizeOf(*n) + 1)
	}
	return x.pick(append(wild(), 0, 1, 2, 3, 4, 5))
}

func (x *past) make() bool {
	kind := x.source.Intn(15)
	n := x.pick([]int{0, 0, 0, 0, 0, 1, 2})
	if (kind == 3 || kind == 6 || kind == 11) && x.source.Intn(3) > 0 {
		n = x.source.Intn(12)
	}
	if x.source.Intn(20) == 0 {
		n = x.pick(wild())
	}
	tag := x.source.Intn(3)
	v, fault := x.h.Make(kind, n, tag)
	want, wantFault := x.p.make(kind, n, tag)
	return v == want && fault == wantFault
}

func (x *past) makeOther() bool {
	if x.source.Intn(2) == 0 {
		v, fault := x.h.MakeTable()
		want, wantFault := x.p.make(10, 0, 0)
		return v == want && fault == wantFault
	}
	b := make([]byte, x.source.Intn(40))
	x.source.Read(b)
	v, fault := x.h.MakeText(b)
	want, wantFault := x.p.makeText(b)
	return v == want && fault == wantFault
}

func (x *past) look() bool {
	v := x.object(0)
	b, fault := x.h.Open(v)
	wantB, wantFault := x.p.open(v)
	s, fault2 := x.h.Text(v)
	wantS, wantFault2 := x.p.text(v)
	n, fault3 := x.h.Node(v)
	wantN := api.Node{}
	if own := x.p.node(v); own != nil {
		wantN = *own
	}
	return b == wantB && fault == wantFault && bytes.Equal(s, wantS) && fault2 == wantFault2 && alike(n, wantN) && fault3 == wantFault
}

func (x *past) fields() bool {
	v := x.object(x.source.Intn(12))
	i, y := x.word(v), x.value()
	got, fault := x.h.Get(v, i)
	want, wantFault := x.p.get(v, i)
	return got == want && fault == wantFault && x.h.Set(v, i, y) == x.p.set(v, i, y)
}

func (x *past) raws() bool {
	v := x.object(x.pick([]int{0, 5, 11}))
	i, w := x.word(v), x.pick([]int{0, -1, 7, 17, 99, int(x.source.Uint64())})
	got, fault := x.h.Raw(v, i)
	want, wantFault := x.p.raw(v, i)
	return got == want && fault == wantFault && x.h.SetRaw(v, i, w) == x.p.setRaw(v, i, w)
}

func (x *past) tables() bool {
	t, k, v := x.object(10), x.value(), x.value()
	got, ok, fault := x.h.TableGet(t, k)
	want, wantOk, wantFault := x.p.tableGet(t, k)
	if got != want || ok != wantOk || fault != wantFault {
		return false
	}
	sizes, fault := x.h.PutNeeds(t, k)
	if len(sizes) != 0 || fault != wantFault || !x.h.Fits(sizes...) {
		return false
	}
	if x.source.Intn(3) > 0 {
		if x.h.TablePut(t, k, v) != x.p.tablePut(t, k, v) {
			return false
		}
	} else {
		ok, fault = x.h.TableDelete(t, k)
		wantOk, wantFault = x.p.tableDelete(t, k)
		if ok != wantOk || fault != wantFault {
			return false
		}
	}
	n, fault := x.h.TableCount(t)
	wantN, wantFault := x.p.tableCount(t)
	return n == wantN && fault == wantFault
}

func (x *past) roots() []api.Value {
	var roots []api.Value
	for range x.source.Intn(9) {
		if v := x.value(); x.source.Intn(30) == 0 || rootPlain(x.p.nodes, v) {
			roots = append(roots, v)
		}
	}
	return roots
}

func (x *past) collect() bool {
	roots := x.roots()
	r, fault := x.h.Collect(roots)
	want, wantFault := x.p.collect(roots)
	return r == want && fault == wantFault && x.alike()
}

// turn is one call, of whatever kind.
func (x *past) turn() bool {
	switch x.source.Intn(20) {
	case 0, 1, 2, 3:
		return x.make()
	case 4:
		return x.makeOther()
	case 5, 6:
		return x.look()
	case 7:
		return x.raws()
	case 8, 9, 10, 11, 12:
		return x.tables()
	case 13:
		return x.source.Intn(x.rare) > 0 || x.collect()
	}
	return x.fields()
}

// alike tells whether both tell one graph, with roots of all sorts.
func (x *past) alike() bool {
	roots := x.roots()
	g, fault := x.h.Graph(roots)
	want, wantFault := x.p.graph(roots)
	return same(g, want) && fault == wantFault
}

// run makes as many turns; false: they did not answer alike, or were not alike in the end.
func (x *past) run(turns int) bool {
	for range turns {
		if !x.turn() {
			return false
		}
	}
	return x.alike()
}
