package object

import (
	"hearth/api"
	"hearth/value"
)

// Where the parts of a text stand among its words.
const (
	lengthWord = 1
	bytesWord  = 2
	wordBytes  = 8
)

// MakeText makes a text of bytes.
func (h *Heap) MakeText(b []byte) (v api.Value, fault api.Fault) {
	defer func() { fault = caught(recover()) }()
	h = h.self()
	text := h.take(api.KindText, len(b), 0)
	h.Poke(text.At+lengthWord, len(b))
	for i := 0; i < len(b); i += wordBytes {
		part := b[i:min(i+wordBytes, len(b))]
		h.Poke(text.At+bytesWord+i/wordBytes, pack(part))
	}
	return value.Ref(text.At), api.Fault{}
}

// pack puts up to eight bytes into a word, the first one lowest.
func pack(b []byte) int {
	w := uint64(0)
	for i, c := range b {
		w |= uint64(c) << (8 * i)
	}
	return int(w)
}

// Text tells a text's bytes.
func (h *Heap) Text(v api.Value) (out []byte, fault api.Fault) {
	defer func() { fault = caught(recover()) }()
	h = h.self()
	b := h.open(v)
	want(b.Kind == api.KindText, api.ErrKind)
	n, _ := h.Peek(b.At + lengthWord)
	// The length is a raw word: any number may stand there, and is held within the room of the bytes.
	n = min(max(n, 0), wordBytes*(b.Size-bytesWord))
	out = make([]byte, n)
	for i := range out {
		w, _ := h.Peek(b.At + bytesWord + i/wordBytes)
		out[i] = byte(uint64(w) >> (i % wordBytes * 8))
	}
	return out, api.Fault{}
}
