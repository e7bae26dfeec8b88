package hearth

import (
	"strconv"
	"strings"

	"hearth/api"
)

// hexDigits are those of bytes as texts.
const hexDigits = "0123456789abcdef"

// numbered is a word and numbers behind it.
func numbered(word string, numbers ...int) string {
	for _, n := range numbers {
		word += " " + strconv.Itoa(n)
	}
	return word
}

// bytesText is the line of a program's bytes.
func bytesText(row []byte) string {
	var t strings.Builder
	t.WriteString(numbered("bytes", len(row)))
	if len(row) > 0 {
		t.WriteByte(' ')
	}
	for _, b := range row {
		t.WriteByte(hexDigits[b>>4])
		t.WriteByte(hexDigits[b&15])
	}
	t.WriteString(lineEnd)
	return t.String()
}

// outcomeText are the lines of an outcome.
func outcomeText(o api.Outcome) string {
	var t strings.Builder
	t.WriteString(endText(o))
	t.WriteString(numbered(" steps", o.Steps))
	t.WriteString(numbered(" collections", len(o.Collections)))
	t.WriteString(lineEnd)
	for _, text := range o.Log {
		t.WriteString("log ")
		t.WriteString(text)
		t.WriteString(lineEnd)
	}
	return t.String()
}

// endText tells how a run has ended.
func endText(o api.Outcome) string {
	switch o.End {
	case api.Done:
		return "done " + o.Value
	case api.Failed:
		return numbered("failed", int(o.Err), o.N)
	case api.OutOfMemory:
		return "memory"
	case api.OutOfFuel:
		return "fuel"
	case api.Corrupt:
		return numbered("corrupt", o.At)
	}
	return numbered("rejected", int(o.Err), o.At, o.N)
}

// heapText is the line of an arena with so many findings.
func heapText(d api.Dump, found int) string {
	free := 0
	for _, page := range d.Pages {
		if page.Kind == api.PageFree {
			free++
		}
	}
	return numbered("words", len(d.Words)) + numbered(" blocks", len(d.Blocks)) + numbered(" free", free) + numbered(" found", found) + lineEnd
}
