package circle_test

import (
	"slices"
	"sync"
	"testing"

	"petasos/api"
	"petasos/circle"
)

const (
	top   = 1<<32 - 1
	half  = 1 << 31
	round = 1 << 32
)

func span(from, to uint32) api.Span { return api.Span{From: from, To: to} }

// spans are all those between values that lie at the seam of the circle, across from it, and elsewhere.
func spans() []api.Span {
	ends := []uint32{0, 1, 2, 5, 9, half - 1, half, half + 1, top - 2, top - 1, top}
	var l []api.Span
	for _, from := range ends {
		for _, to := range ends {
			l = append(l, span(from, to))
		}
	}
	return l
}

// strewn are n spans from all over the circle, the same ones each time.
func strewn(n int) []api.Span {
	var l []api.Span
	x := uint64(1)
	for range n {
		x = x*6364136223846793005 + 1442695040888963407
		from := uint32(x >> 32)
		x = x*6364136223846793005 + 1442695040888963407
		l = append(l, span(from, uint32(x>>32)))
	}
	return l
}

// has is Has without steps: by what is below and above.
func has(s api.Span, v uint32) bool {
	switch {
	case s.From < s.To:
		return s.From < v && v <= s.To
	case s.From > s.To:
		return s.From < v || v <= s.To
	}
	return true
}

// size is Size without numbers that go round.
func size(s api.Span) uint64 {
	if s.From < s.To {
		return uint64(s.To) - uint64(s.From)
	}
	return round - uint64(s.From) + uint64(s.To)
}

// parts tells the values of a that are in b (or, with in false, that are not), as few spans in a's order: a is
// cut wherever b begins or ends, and what belongs together is put together.
func parts(a, b api.Span, in bool) []api.Span {
	cuts := []uint64{0, size(a)}
	for _, v := range []uint32{b.From, b.To} {
		if has(a, v) {
			cuts = append(cuts, size(span(a.From, v)))
		}
	}
	slices.Sort(cuts)
	var l []api.Span
	open := false
	for i := 1; i < len(cuts); i++ {
		if cuts[i] == cuts[i-1] {
			continue
		}
		s := span(a.From+uint32(cuts[i-1]), a.From+uint32(cuts[i]))
		switch fits := has(b, s.To) == in; {
		case fits && open:
			l[len(l)-1].To = s.To
		case fits:
			l = append(l, s)
			open = true
		default:
			open = false
		}
	}
	return l
}

func TestP1_1Spans(t *testing.T) {
	for _, r := range []struct {
		s      api.Span
		v      uint32
		has    bool
		size   uint64
		middle uint32
	}{
		{span(5, 9), 4, false, 4, 7},
		{span(5, 9), 5, false, 4, 7},
		{span(5, 9), 6, true, 4, 7},
		{span(5, 9), 9, true, 4, 7},
		{span(5, 9), 10, false, 4, 7},
		{span(5, 8), 8, true, 3, 6},
		{span(9, 5), 5, true, round - 4, half + 7},
		{span(9, 5), 6, false, round - 4, half + 7},
		{span(9, 5), 9, false, round - 4, half + 7},
		{span(9, 5), 10, true, round - 4, half + 7},
		{span(9, 5), top, true, round - 4, half + 7},
		{span(9, 5), 0, true, round - 4, half + 7},
		{span(0, 1), 0, false, 1, 0},
		{span(0, 1), 1, true, 1, 0},
		{span(top, 0), 0, true, 1, top},
		{span(top, 0), top, false, 1, top},
		{span(0, top), 0, false, top, half - 1},
		{span(0, top), top, true, top, half - 1},
		{span(7, 7), 7, true, round, half + 7},
		{span(7, 7), 8, true, round, half + 7},
		{span(7, 7), 6, true, round, half + 7},
		{span(0, 0), 0, true, round, half},
		{span(top, top), top, true, round, half - 1},
	} {
		if got := circle.Has(r.s, r.v); got != r.has {
			t.Errorf("Has(%v, %d): %v; want %v", r.s, r.v, got, r.has)
		}
		if got := circle.Size(r.s); got != r.size {
			t.Errorf("Size(%v): %d; want %d", r.s, got, r.size)
		}
		if got := circle.Middle(r.s); got != r.middle {
			t.Errorf("Middle(%v): %d; want %d", r.s, got, r.middle)
		}
	}
}

// TestP1_1Steps goes round short spans step by step, as the chapter's words have it.
func TestP1_1Steps(t *testing.T) {
	for _, from := range []uint32{0, 3, half - 5, top - 20, top - 1, top} {
		for n := range uint32(24) {
			s := span(from, from+n+1)
			if got := circle.Size(s); got != uint64(n)+1 {
				t.Errorf("Size(%v): %d; want %d", s, got, n+1)
			}
			if got := circle.Middle(s); got != from+(n+1)/2 {
				t.Errorf("Middle(%v): %d; want %d", s, got, from+(n+1)/2)
			}
			for step := range uint32(30) {
				if got := circle.Has(s, from+step); got != (step >= 1 && step <= n+1) {
					t.Errorf("Has(%v, %d): %v", s, from+step, got)
				}
				if got := circle.Far(from, from+step); got != step {
					t.Errorf("Far(%d, %d): %d; want %d", from, from+step, got, step)
				}
			}
		}
	}
}

func TestP1_1Everywhere(t *testing.T) {
	for _, s := range append(spans(), strewn(200)...) {
		if got := circle.Size(s); got != size(s) {
			t.Errorf("Size(%v): %d; want %d", s, got, size(s))
		}
		if got := circle.Middle(s); got != s.From+uint32(size(s)/2) {
			t.Errorf("Middle(%v): %d", s, got)
		}
		for _, v := range []uint32{0, 1, half, top, s.From - 1, s.From, s.From + 1, s.To - 1, s.To, s.To + 1} {
			if got := circle.Has(s, v); got != has(s, v) {
				t.Errorf("Has(%v, %d): %v", s, v, got)
			}
		}
	}
}

func TestP1_1Far(t *testing.T) {
	for _, r := range []struct{ from, to, far uint32 }{
		{5, 9, 4}, {9, 5, top - 3}, {7, 7, 0}, {0, 0, 0}, {top, top, 0}, {top, 0, 1}, {0, top, top}, {half, 0, half}, {top - 1, 2, 4},
	} {
		if got := circle.Far(r.from, r.to); got != r.far {
			t.Errorf("Far(%d, %d): %d; want %d", r.from, r.to, got, r.far)
		}
	}
}

func TestP1_2MeetLess(t *testing.T) {
	for _, r := range []struct {
		what       string
		a, b       api.Span
		meet, less []api.Span
	}{
		{"b inside of a", span(0, 10), span(2, 5), []api.Span{span(2, 5)}, []api.Span{span(0, 2), span(5, 10)}},
		{"a inside of b", span(2, 5), span(0, 10), []api.Span{span(2, 5)}, nil},
		{"alike", span(3, 8), span(3, 8), []api.Span{span(3, 8)}, nil},
		{"a's end", span(0, 10), span(5, 20), []api.Span{span(5, 10)}, []api.Span{span(0, 5)}},
		{"a's beginning", span(5, 20), span(0, 10), []api.Span{span(5, 10)}, []api.Span{span(10, 20)}},
		{"b begins where a does", span(4, 9), span(4, 6), []api.Span{span(4, 6)}, []api.Span{span(6, 9)}},
		{"b ends where a does", span(4, 9), span(6, 9), []api.Span{span(6, 9)}, []api.Span{span(4, 6)}},
		{"b begins where a ends", span(0, 10), span(10, 20), nil, []api.Span{span(0, 10)}},
		{"b ends where a begins", span(10, 20), span(0, 10), nil, []api.Span{span(10, 20)}},
		{"apart", span(0, 10), span(20, 30), nil, []api.Span{span(0, 10)}},
		{"across from each other", span(9, 3), span(3, 9), nil, []api.Span{span(9, 3)}},
		{"b goes on over a's From", span(0, 10), span(8, 3), []api.Span{span(0, 3), span(8, 10)}, []api.Span{span(3, 8)}},
		{"b goes on over a's From, all round but for one", span(0, 10), span(6, 5), []api.Span{span(0, 5), span(6, 10)}, []api.Span{span(5, 6)}},
		{"b goes on over a's From, and begins behind a", span(0, 10), span(20, 3), []api.Span{span(0, 3)}, []api.Span{span(3, 10)}},
		{"b goes on over a's From, and ends behind a", span(2, 5), span(9, 7), []api.Span{span(2, 5)}, nil},
		{"the seam", span(top-4, 5), span(top, 2), []api.Span{span(top, 2)}, []api.Span{span(top-4, top), span(2, 5)}},
		{"the seam, b from behind it", span(top-4, 5), span(2, top-1), []api.Span{span(top-4, top-1), span(2, 5)}, []api.Span{span(top-1, 2)}},
		{"one value, that b has", span(top, 0), span(5, 0), []api.Span{span(top, 0)}, nil},
		{"one value, that b has not", span(top, 0), span(0, top), nil, []api.Span{span(top, 0)}},
		{"b is all", span(0, 10), span(3, 3), []api.Span{span(0, 10)}, nil},
		{"b is all, from where a ends", span(0, 10), span(10, 10), []api.Span{span(0, 10)}, nil},
		{"both are all", span(4, 4), span(9, 9), []api.Span{span(4, 4)}, nil},
		{"both are all, alike", span(4, 4), span(4, 4), []api.Span{span(4, 4)}, nil},
		{"a is all", span(4, 4), span(7, 2), []api.Span{span(7, 2)}, []api.Span{span(4, 7), span(2, 4)}},
		{"a is all, b goes on over a's From", span(4, 4), span(2, 9), []api.Span{span(4, 9), span(2, 4)}, []api.Span{span(9, 2)}},
		{"a is all, b begins where a does", span(4, 4), span(4, 9), []api.Span{span(4, 9)}, []api.Span{span(9, 4)}},
		{"a is all, b ends where a does", span(4, 4), span(9, 4), []api.Span{span(9, 4)}, []api.Span{span(4, 9)}},
		{"a is all, b its From alone", span(4, 4), span(3, 4), []api.Span{span(3, 4)}, []api.Span{span(4, 3)}},
	} {
		if got := circle.Meet(r.a, r.b); !slices.Equal(got, r.meet) {
			t.Errorf("%s: Meet(%v, %v): %v; want %v", r.what, r.a, r.b, got, r.meet)
		}
		if got := circle.Less(r.a, r.b); !slices.Equal(got, r.less) {
			t.Errorf("%s: Less(%v, %v): %v; want %v", r.what, r.a, r.b, got, r.less)
		}
	}
}

func TestP1_2Everywhere(t *testing.T) {
	for _, l := range [][]api.Span{spans(), strewn(150)} {
		for _, a := range l {
			for _, b := range l {
				if got, want := circle.Meet(a, b), parts(a, b, true); !slices.Equal(got, want) {
					t.Fatalf("Meet(%v, %v): %v; want %v", a, b, got, want)
				}
				if got, want := circle.Less(a, b), parts(a, b, false); !slices.Equal(got, want) {
					t.Fatalf("Less(%v, %v): %v; want %v", a, b, got, want)
				}
			}
		}
	}
}

// TestWhatFollows: what both have, and what only a has, make up a: laid in a's order they go from its From to its To.
func TestWhatFollows(t *testing.T) {
	for _, l := range [][]api.Span{spans(), strewn(150)} {
		for _, a := range l {
			for _, b := range l {
				all := append(circle.Meet(a, b), circle.Less(a, b)...)
				slices.SortFunc(all, func(x, y api.Span) int {
					return int(int64(circle.Far(a.From, x.From)) - int64(circle.Far(a.From, y.From)))
				})
				at, sum := a.From, uint64(0)
				for _, s := range all {
					if s.From != at {
						t.Fatalf("of %v and %v: %v do not follow each other", a, b, all)
					}
					at, sum = s.To, sum+circle.Size(s)
				}
				if at != a.To || sum != circle.Size(a) {
					t.Fatalf("of %v and %v: %v do not make up the first", a, b, all)
				}
			}
		}
	}
}

// TestR2Alike: the same is answered whenever, and by whomever, it is asked.
func TestR2Alike(t *testing.T) {
	var jobs sync.WaitGroup
	for range 4 {
		jobs.Go(func() {
			for _, a := range spans() {
				b := span(a.To+3, a.From)
				if !slices.Equal(circle.Meet(a, b), parts(a, b, true)) || !slices.Equal(circle.Less(a, b), parts(a, b, false)) {
					t.Errorf("Meet or Less of %v, %v", a, b)
				}
			}
		})
	}
	jobs.Wait()
}

// TestR3NewMemory: who writes into an answer, and into the room behind its end, changes no other one.
func TestR3NewMemory(t *testing.T) {
	for name, call := range map[string]func(a, b api.Span) []api.Span{"Meet": circle.Meet, "Less": circle.Less} {
		for _, a := range spans() {
			b := span(a.To-1, a.From+2)
			first, second := call(a, b), call(a, b)
			want := slices.Clone(second)
			first = first[:cap(first)]
			for i := range first {
				first[i] = span(77, 78)
			}
			if !slices.Equal(second, want) || !slices.Equal(call(a, b), want) {
				t.Errorf("%s(%v, %v): its answers share memory", name, a, b)
			}
		}
	}
}
