package code

import (
	"testing"

	"hearth/api"
)

func TestP1804Refused(t *testing.T) {
	for _, p := range []api.Program{
		{}, one(api.Ins{}), one(api.Ins{Op: api.OpPop, A: 1}), one(api.Ins{Op: api.OpFix, A: 1 << 60}), one(api.Ins{Op: api.OpFix, A: -1<<60 - 1}), one(api.Ins{Op: api.OpJump, A: -1}),
		{Globals: 1, Texts: [][]byte{[]byte("a")}},
	} {
		misshapen(t, "P1804", p)
	}
}

// Whatever stands ahead of it, one part that is wrong is enough.
func TestP1804OneWrongPart(t *testing.T) {
	good := func() api.Program {
		p := api.Program{Globals: 5}
		for range 9 {
			p.Texts = append(p.Texts, []byte("text"))
			p.Funcs = append(p.Funcs, api.Func{Params: 1, Locals: 2, Captures: 3, Code: []api.Ins{{Op: 1, A: 7}, {Op: 5, A: -7}, {Op: 19}}})
		}
		return p
	}
	if _, errno := Write(good()); errno != api.OK {
		t.Fatalf("P1804: %v", errno)
	}
	for _, turn := range []func(p *api.Program){
		func(p *api.Program) { p.Globals = -1 },
		func(p *api.Program) { p.Texts[8] = make([]byte, 4097) },
		func(p *api.Program) { p.Funcs[8].Params = 9 },
		func(p *api.Program) { p.Funcs[8].Locals = 65 },
		func(p *api.Program) { p.Funcs[8].Captures = -1 },
		func(p *api.Program) { p.Funcs[8].Code[0].A = 1 << 60 },
		func(p *api.Program) { p.Funcs[8].Code[2].A = 1 },
		func(p *api.Program) { p.Funcs[8].Code[2].Op = 29 },
		func(p *api.Program) { p.Funcs[0].Code[0].Op = 0 },
		func(p *api.Program) { p.Funcs[0].Code[1].Op = 256 + 5 },
	} {
		p := good()
		turn(&p)
		misshapen(t, "P1804", p)
	}
}

// sized is a program of just n bytes, some 60,000 of them in texts.
func sized(n int) api.Program {
	p := api.Program{Funcs: make([]api.Func, 1)}
	for range 15 {
		p.Texts = append(p.Texts, make([]byte, 4000))
	}
	n -= 4 + 1 + 1 + 15*4002 + 1 + 3 + 2
	for ; n > 4000; n -= 4002 {
		p.Texts = append(p.Texts, make([]byte, 4000))
	}
	for range n {
		p.Funcs[0].Code = append(p.Funcs[0].Code, api.Ins{Op: api.OpPop})
	}
	return p
}

func TestP1804Long(t *testing.T) {
	for n := 65530; n <= 65536; n++ {
		p := sized(n)
		row, _ := plainWrite(p)
		if len(row) != n {
			t.Fatalf("P1804: %d bytes, want %d", len(row), n)
		}
		stands(t, "P1804", p, row)
	}
	for _, n := range []int{65537, 65538, 65600, 66000, 68000} {
		writes(t, "P1804", sized(n), nil, api.ErrLong)
	}
}

// The longest program of all that are of the form.
func TestP1804Longest(t *testing.T) {
	p := api.Program{Globals: 64}
	code := make([]api.Ins, 4096)
	for i := range code {
		code[i] = api.Ins{Op: api.OpFix, A: leastFix}
	}
	for range 64 {
		p.Texts = append(p.Texts, make([]byte, 4096))
		p.Funcs = append(p.Funcs, api.Func{Params: 8, Locals: 64, Captures: 64, Code: code})
	}
	writes(t, "P1804", p, nil, api.ErrLong)
	p.Funcs = p.Funcs[:1]
	writes(t, "P1804", p, nil, api.ErrLong)
	p.Funcs[0].Locals = 65
	misshapen(t, "P1804", p)
}

// A long part ends behind the limit just like a short one: by an operand's last byte, by a float's.
func TestP1804LongByOneByte(t *testing.T) {
	for _, last := range []api.Ins{{Op: api.OpPop}, {Op: api.OpJump, A: 127}, {Op: api.OpJump, A: 2097151}, {Op: api.OpFlo, A: -1}, {Op: api.OpFix, A: mostFix}} {
		row, _ := plainOperand(last.Op, last.A)
		p := sized(65536 - 1 - len(row))
		p.Funcs[0].Code = append(p.Funcs[0].Code, last)
		if b, errno := Write(p); len(b) != 65536 || errno != api.OK {
			t.Errorf("P1804: %v as the last instruction: %d bytes, %v", last, len(b), errno)
		}
		p = sized(65536 - len(row))
		p.Funcs[0].Code = append(p.Funcs[0].Code, last)
		writes(t, "P1804", p, nil, api.ErrLong)
	}
}

// The form is looked at ahead of the length, behind the limit too.
func TestP1804FormAheadOfLength(t *testing.T) {
	for _, wrong := range []api.Ins{{}, {Op: 23}, {Op: api.OpPop, A: 1}, {Op: api.OpJump, A: 2097152}, {Op: api.OpFix, A: leastFix - 1}} {
		p := sized(68000)
		p.Funcs[0].Code = append(p.Funcs[0].Code, wrong)
		misshapen(t, "P1804", p)
		p = sized(68000)
		p.Funcs = append(p.Funcs, api.Func{Code: []api.Ins{wrong}})
		misshapen(t, "P1804", p)
	}
	p := sized(68000)
	p.Funcs = append(p.Funcs, api.Func{Captures: 65})
	misshapen(t, "P1804", p)
	p = sized(68000)
	p.Funcs = nil
	misshapen(t, "P1804", p)
	p = sized(68000)
	p.Texts = append(p.Texts, make([]byte, 4097))
	misshapen(t, "P1804", p)
}

func TestP1804NilAndEmpty(t *testing.T) {
	row := join(head(0))
	writes(t, "P1804", api.Program{Texts: nil, Funcs: []api.Func{{Code: nil}}}, row, api.OK)
	writes(t, "P1804", api.Program{Texts: [][]byte{}, Funcs: []api.Func{{Code: []api.Ins{}}}}, row, api.OK)
	misshapen(t, "P1804", api.Program{Funcs: []api.Func{}})
	text := []byte{0x68, 0x74, 0x68, 1, 0, 1, 0, 1, 0, 0, 0, 0}
	writes(t, "P1804", api.Program{Texts: [][]byte{nil}, Funcs: make([]api.Func, 1)}, text, api.OK)
	writes(t, "P1804", api.Program{Texts: [][]byte{{}}, Funcs: make([]api.Func, 1)}, text, api.OK)
}
