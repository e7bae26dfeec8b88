package object

import (
	"bytes"
	"slices"
	"testing"

	"hearth/api"
)

// row is n bytes, none of which is 0, some above 127.
func row(n int) []byte {
	out := make([]byte, n)
	for i := range out {
		out[i] = byte(i*37%255 + 1)
	}
	return out
}

func TestP907EveryLength(t *testing.T) {
	h := made(t, 12)
	for _, n := range []int{0, 1, 2, 7, 8, 9, 15, 16, 17, 63, 64, 65, 239, 240, 241, 500, 4088, 4089, 4095, 4096} {
		b := row(n)
		v := text(t, h, string(b))
		block, fault := h.Open(v)
		if fault.Err != 0 || block.Kind != 4 || block.Size != 2+(n+7)/8 || block.Tag != 0 {
			t.Fatalf("P907: a text of %d bytes: %v, %v", n, block, fault)
		}
		if w, fault := h.Raw(v, 1); w != n || fault.Err != 0 {
			t.Errorf("P907: the length of a text of %d bytes: %d, %v", n, w, fault)
		}
		for i := range block.Size - 2 {
			want := 0
			for k := range 8 {
				if i*8+k < n {
					want |= int(b[i*8+k]) << (8 * k)
				}
			}
			if w, fault := h.Raw(v, 2+i); w != want || fault.Err != 0 {
				t.Errorf("P907: word %d of a text of %d bytes: %x, %v, want %x", 2+i, n, w, fault, want)
			}
		}
		if got, fault := h.Text(v); !bytes.Equal(got, b) || fault != (api.Fault{}) {
			t.Errorf("P907: Text of %d bytes: %v, %v", n, got, fault)
		}
		h.Keep(nil)
	}
}

func TestP907EveryByte(t *testing.T) {
	h := made(t, 4)
	for c := range 256 {
		b := bytes.Repeat([]byte{byte(c)}, 11)
		v := text(t, h, string(b))
		if got, fault := h.Text(v); !bytes.Equal(got, b) || fault.Err != 0 {
			t.Errorf("P907: a text of bytes %d: %v, %v", c, got, fault)
		}
		h.Keep(nil)
	}
	v := text(t, h, "\xff\xff\xff\xff\xff\xff\xff\xff\x80")
	first, _ := h.Raw(v, 2)
	second, _ := h.Raw(v, 3)
	if first != -1 || second != 128 {
		t.Errorf("P907: words of the greatest bytes: %d, %d", first, second)
	}
	if v := text(t, h, "\x00\x00\x00\x00\x00\x00\x00\x80"); h.SetRaw(v, 1, 8) == (api.Fault{}) {
		if w, _ := h.Raw(v, 2); w != least {
			t.Errorf("P907: the last byte of a word is not its highest: %d", w)
		}
	}
}

// The bytes that are left of the last word are 0, whatever stood there ahead of it.
func TestP907WhatIsLeftIsZero(t *testing.T) {
	h := made(t, 1)
	v := text(t, h, "\xff\xff\xff\xff\xff\xff\xff\xff\xff\xff\xff\xff\xff\xff\xff\xff")
	h.Keep(nil)
	if again := text(t, h, "abcdefghi"); again != v {
		t.Fatalf("P903: the free block was not taken again: %v", again)
	}
	h.SetRaw(v, 1, 99)
	if got, _ := h.Text(v); string(got) != "abcdefghi\x00\x00\x00\x00\x00\x00\x00" {
		t.Errorf("P907: the bytes behind a text: %q", got)
	}
}

func TestP907LengthsThatAreTurned(t *testing.T) {
	h := made(t, 3)
	b, empty := text(t, h, "ten bytes."), text(t, h, "")
	for n, want := range map[int]string{
		0: "", 1: "t", 9: "ten bytes", 10: "ten bytes.", 11: "ten bytes.\x00", 15: "ten bytes.\x00\x00\x00\x00\x00", 16: "ten bytes.\x00\x00\x00\x00\x00\x00",
		17: "ten bytes.\x00\x00\x00\x00\x00\x00", 4096: "ten bytes.\x00\x00\x00\x00\x00\x00", greatest: "ten bytes.\x00\x00\x00\x00\x00\x00", 1<<32 + 1: "ten bytes.\x00\x00\x00\x00\x00\x00",
		-1: "", least: "", least + 3: "", 1 - 1<<32: "",
	} {
		h.SetRaw(b, 1, n)
		if got, fault := h.Text(b); string(got) != want || fault != (api.Fault{}) {
			t.Errorf("P907: Text of a length %d: %q, %v, want %q", n, got, fault, want)
		}
		h.SetRaw(empty, 1, n)
		if got, fault := h.Text(empty); len(got) != 0 || fault != (api.Fault{}) {
			t.Errorf("P907: Text of no words for bytes, of a length %d: %q, %v", n, got, fault)
		}
	}
}

func TestP907Refuses(t *testing.T) {
	h := made(t, 9)
	unchanged(t, "MakeText of too much", h, func() {
		for _, n := range []int{4097, 4098, 8192, 65536 + 1, 1 << 20} {
			if v, fault := h.MakeText(make([]byte, n)); v != (api.Value{}) || fault != no(24) {
				t.Errorf("P907: MakeText of %d bytes: %v, %v", n, v, fault)
			}
		}
	})
	text(t, h, string(row(4096)))
	unchanged(t, "MakeText without room", h, func() {
		for n, want := range map[int]api.Errno{0: 20, 5: 20, 250: 20, 4096: 20, 4097: 24} {
			if v, fault := h.MakeText(make([]byte, n)); v != (api.Value{}) || fault != no(want) {
				t.Errorf("P907: MakeText of %d bytes without room: %v, %v", n, v, fault)
			}
		}
	})
}

func TestP907NoText(t *testing.T) {
	h := made(t, 100)
	for _, s := range shapes() {
		v := object(t, h, s[0], s[1], 4)
		if got, fault := h.Text(v); len(got) != 0 || fault != no(31) {
			t.Errorf("P907: Text of the kind %d: %v, %v", s[0], got, fault)
		}
	}
}

func TestP907Serials(t *testing.T) {
	h := made(t, 2)
	for i := range 5 {
		if b, _ := h.Open(text(t, h, "x")); b.Serial != i+1 {
			t.Errorf("P907: the text number %d: %v", i+1, b)
		}
	}
}

func TestP909BytesAreLeftAloneAndNotKept(t *testing.T) {
	h := made(t, 2)
	room := row(40)
	old := slices.Clone(room)
	v, fault := h.MakeText(room[3:20])
	if fault.Err != 0 || !bytes.Equal(room, old) {
		t.Errorf("P909: MakeText: %v, and what was handed in is %v", fault, room)
	}
	clear(room)
	if got, _ := h.Text(v); !bytes.Equal(got, old[3:20]) {
		t.Errorf("P909: the text turns with what was handed in: %v", got)
	}
}

func TestP909AnswersAreNewMemory(t *testing.T) {
	h := made(t, 2)
	v := text(t, h, "not shared")
	a, _ := h.Text(v)
	b, _ := h.Text(v)
	unchanged(t, "writing to an answer", h, func() {
		for i := range a[:cap(a)] {
			a[:cap(a)][i] = 0
		}
	})
	if c, _ := h.Text(v); string(b) != "not shared" || string(c) != "not shared" {
		t.Errorf("P909: texts behind writing to another answer: %q, %q", b, c)
	}
}

// The chapter's examples of texts, line by line.
func TestP907ChapterExamples(t *testing.T) {
	h := made(t, 1)
	a, b := object(t, h, api.KindPair, 0, 0), text(t, h, "hi")
	for i, want := range map[int]int{1: 2, 2: 26984} {
		if w, fault := h.Raw(b, i); w != want || fault.Err != 0 {
			t.Errorf("Raw(b, %d) = %d, %v", i, w, fault)
		}
	}
	if w, fault := h.Raw(b, 3); w != 0 || fault != no(api.ErrField) {
		t.Errorf("Raw(b, 3) = %d, %v", w, fault)
	}
	if _, fault := h.Text(a); fault != no(api.ErrKind) {
		t.Errorf("Text(a): %v", fault)
	}
	for _, x := range []struct {
		n    int
		want string
	}{{2, "hi"}, {-1, ""}, {99, "hi\x00\x00\x00\x00\x00\x00"}} {
		fault := h.SetRaw(b, 1, x.n)
		if got, f := h.Text(b); fault.Err != 0 || string(got) != x.want || f.Err != 0 {
			t.Errorf("SetRaw(b, 1, %d), Text(b) = %q", x.n, got)
		}
	}
}
