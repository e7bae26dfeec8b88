package value

import (
	"testing"

	"hearth/api"
)

func TestP204LessExamples(t *testing.T) {
	for _, r := range []struct {
		a, b api.Value
		want bool
	}{
		{api.Value{Kind: 1, N: 9}, api.Value{Kind: 2, N: 0}, true},
		{api.Value{Kind: 2, N: 0}, api.Value{Kind: 1, N: 9}, false},
		{api.Value{Kind: 3, N: 2}, api.Value{Kind: 3, N: 2}, false},
		{api.Value{Kind: 1, N: -5}, api.Value{Kind: 1, N: 4}, true},
		{api.Value{Kind: 1, N: 4}, api.Value{Kind: 1, N: -5}, false},
		{api.Value{Kind: 1, N: 4}, api.Value{Kind: 4, N: -5}, true},
	} {
		if got := Less(r.a, r.b); got != r.want {
			t.Errorf("P204: Less(%v, %v) = %v, want %v", r.a, r.b, got, r.want)
		}
	}
}

// TestP204LessIsALine holds Less against places in a list that is written in its order, of valid values and of others.
func TestP204LessIsALine(t *testing.T) {
	var line []api.Value
	for _, kind := range kinds() {
		for _, n := range []int{least, -1 << 60, -1, 0, 1, 5, 6, 1 << 32, 1<<60 - 1, 1 << 60, greatest} {
			line = append(line, api.Value{Kind: kind, N: n})
		}
	}
	for i, a := range line {
		for j, b := range line {
			if got := Less(a, b); got != (i < j) {
				t.Errorf("P204: Less(%v, %v) = %v", a, b, got)
			}
		}
	}
}

func TestP205LinkExamples(t *testing.T) {
	for _, r := range []struct{ next, want int }{
		{-1, -4}, {0, 4}, {1, 12}, {262143, 2097148}, {262144, 0}, {-2, 0}, {1 << 61, 0}, {-1 << 61, 0}, {1<<61 + 1, 0}, {least, 0}, {greatest, 0},
	} {
		if got := Link(r.next); got != r.want {
			t.Errorf("P205: Link(%d) = %d, want %d", r.next, got, r.want)
		}
	}
}

func TestP205NextExamples(t *testing.T) {
	for _, r := range []struct {
		w, want int
		ok      bool
	}{
		{-4, -1, true},
		{4, 0, true},
		{12, 1, true},
		{2097148, 262143, true},
		{2097156, 0, false},
		{-12, 0, false},
		{0, 0, false},
		{1, 0, false},
		{2, 0, false},
		{3, 0, false},
		{5, 0, false},
		{6, 0, false},
		{7, 0, false},
		{-3, 0, false},
		{-8, 0, false},
		{least + 4, 0, false},
		{greatest - 3, 0, false},
	} {
		if got, ok := Next(r.w); got != r.want || ok != r.ok {
			t.Errorf("P205: Next(%d) = %d, %v, want %d, %v", r.w, got, ok, r.want, r.ok)
		}
	}
}

func TestP205EveryLink(t *testing.T) {
	for next := -1; next <= 262143; next++ {
		w := Link(next)
		if want, _ := wantWord(next, 4); w != want {
			t.Fatalf("P205: Link(%d) = %d, want %d", next, w, want)
		}
		if got, ok := Next(w); got != next || !ok {
			t.Fatalf("P205: Next(%d) = %d, %v, want %d", w, got, ok, next)
		}
		if v, ok := Read(w); ok {
			t.Fatalf("P203: the link %d is read as %v", w, v)
		}
	}
}

func TestP205OtherWordsAreNoLinks(t *testing.T) {
	for _, body := range edges() {
		for tag := 0; tag < 8; tag++ {
			w, fits := wantWord(body, tag)
			if !fits {
				continue
			}
			want, ok := 0, tag == 4 && -1 <= body && body <= 262143
			if ok {
				want = body
			}
			if got, yes := Next(w); got != want || yes != ok {
				t.Errorf("P205: Next(%d) = %d, %v, want %d, %v", w, got, yes, want, ok)
			}
		}
	}
}
