package code

import "hearth/api"

// writer puts parts behind one another.
type writer struct{ bytes []byte }

// put puts bytes down. Once they are too many no more are kept: the rest of the program is looked at for its form alone.
func (w *writer) put(b ...byte) {
	if len(w.bytes) <= api.MaxProgram {
		w.bytes = append(w.bytes, b...)
	}
}

func (w *writer) program(p api.Program) {
	w.put([]byte(magic)...)
	w.number(p.Globals, 0, api.MaxGlobals)
	w.number(len(p.Texts), 0, api.MaxTexts)
	for _, text := range p.Texts {
		w.number(len(text), 0, api.MaxText)
		w.put(text...)
	}
	w.number(len(p.Funcs), 1, api.MaxFuncs)
	for _, f := range p.Funcs {
		w.function(f)
	}
}

func (w *writer) function(f api.Func) {
	w.number(f.Params, 0, api.MaxParams)
	w.number(f.Locals, 0, api.MaxLocals)
	w.number(f.Captures, 0, api.MaxCaptures)
	w.number(len(f.Code), 0, api.MaxCode)
	for _, i := range f.Code {
		w.instruction(i)
	}
}

func (w *writer) instruction(i api.Ins) {
	sort := operandOf(i.Op)
	may(sort != unknown)
	w.put(byte(i.Op))
	switch sort {
	case without:
		may(i.A == 0)
	case numbered:
		w.number(i.A, 0, mostNumber)
	case signed:
		w.signed(i.A)
	case bits:
		w.bits(i.A)
	}
}

// signed writes a fixnum.
func (w *writer) signed(n int) {
	may(n >= api.LeastFix && n <= api.MostFix)
	if n >= 0 {
		w.number(2*n, 0, mostSigned)
	} else {
		w.number(-2*n-1, 0, mostSigned)
	}
}

// bits writes any int.
func (w *writer) bits(n int) {
	for i := range floBytes {
		w.put(byte(n >> (byteBits * i)))
	}
}

// number writes a number from least to most.
func (w *writer) number(n, least, most int) {
	may(n >= least && n <= most)
	for ; n >= more; n /= more {
		w.put(byte(n%more + more))
	}
	w.put(byte(n))
}

// may gives up, unless a program may be so. In a program there are no places.
func may(holds bool) { want(holds, api.ErrForm, 0) }
