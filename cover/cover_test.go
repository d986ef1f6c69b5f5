package cover_test

import (
	"slices"
	"sync"
	"testing"

	"petasos/api"
	"petasos/cover"
)

const (
	top   = 1<<32 - 1
	half  = 1 << 31
	round = 1 << 32
)

func span(from, to uint32) api.Span { return api.Span{From: from, To: to} }

// size is how many values s has, without numbers that go round.
func size(s api.Span) uint64 {
	if s.From < s.To {
		return uint64(s.To) - uint64(s.From)
	}
	return round - uint64(s.From) + uint64(s.To)
}

// has tells by what is below and above whether v is in s.
func has(s api.Span, v uint32) bool {
	switch {
	case s.From < s.To:
		return s.From < v && v <= s.To
	case s.From > s.To:
		return s.From < v || v <= s.To
	}
	return true
}

// gaps tells what of s none of the added ones has: s is cut wherever one of them begins or ends, and what belongs
// together is put together.
func gaps(s api.Span, added []api.Span) []api.Span {
	cuts := []uint64{0, size(s)}
	for _, a := range added {
		for _, v := range []uint32{a.From, a.To} {
			if has(s, v) {
				cuts = append(cuts, size(span(s.From, v)))
			}
		}
	}
	slices.Sort(cuts)
	cuts = slices.Compact(cuts)
	var l []api.Span
	open := false
	for i := 1; i < len(cuts); i++ {
		piece := span(s.From+uint32(cuts[i-1]), s.From+uint32(cuts[i]))
		covered := slices.ContainsFunc(added, func(a api.Span) bool { return has(a, piece.To) })
		switch {
		case !covered && open:
			l[len(l)-1].To = piece.To
		case !covered:
			l = append(l, piece)
		}
		open = !covered
	}
	return l
}

func sum(l []api.Span) uint64 {
	n := uint64(0)
	for _, s := range l {
		n += size(s)
	}
	return n
}

// check holds a cover against the gaps that it should have.
func check(t *testing.T, what string, c *cover.Cover, want []api.Span) {
	t.Helper()
	if got := c.Gaps(); !slices.Equal(got, want) {
		t.Errorf("%s: Gaps: %v; want %v", what, got, want)
	}
	if got := c.Left(); got != sum(want) {
		t.Errorf("%s: Left: %d; want %d", what, got, sum(want))
	}
	if got := c.Whole(); got != (len(want) == 0) {
		t.Errorf("%s: Whole: %v, with gaps %v", what, got, want)
	}
}

// edges are all spans between values at the seam of the circle, across from it, and elsewhere.
func edges() []api.Span {
	ends := []uint32{0, 1, 5, 9, half - 1, half, half + 1, top - 1, top}
	var l []api.Span
	for _, from := range ends {
		for _, to := range ends {
			l = append(l, span(from, to))
		}
	}
	return l
}

// strewn gives numbers from all over, the same ones each time.
func strewn(seed uint64) func() uint32 {
	x := seed
	return func() uint32 {
		x = x*6364136223846793005 + 1442695040888963407
		return uint32(x >> 32)
	}
}

type add struct {
	s api.Span
	n uint64
}

func TestP2_1(t *testing.T) {
	for _, r := range []struct {
		what string
		of   api.Span
		adds []add
		gaps []api.Span
	}{
		{"nothing", span(0, 10), nil, []api.Span{span(0, 10)}},
		{"the chapter's example", span(0, 10), []add{{span(2, 5), 3}}, []api.Span{span(0, 2), span(5, 10)}},
		{"all of it", span(0, 10), []add{{span(0, 10), 10}}, nil},
		{"more than it", span(5, 10), []add{{span(0, 20), 5}}, nil},
		{"all there is", span(5, 10), []add{{span(7, 7), 5}}, nil},
		{"its beginning", span(0, 10), []add{{span(0, 3), 3}}, []api.Span{span(3, 10)}},
		{"its end", span(0, 10), []add{{span(3, 10), 7}}, []api.Span{span(0, 3)}},
		{"over its beginning", span(10, 20), []add{{span(5, 13), 3}}, []api.Span{span(13, 20)}},
		{"over its end", span(10, 20), []add{{span(17, 25), 3}}, []api.Span{span(10, 17)}},
		{"apart", span(0, 10), []add{{span(20, 30), 0}}, []api.Span{span(0, 10)}},
		{"what begins where it ends", span(0, 10), []add{{span(10, 20), 0}}, []api.Span{span(0, 10)}},
		{"what ends where it begins", span(10, 20), []add{{span(0, 10), 0}}, []api.Span{span(10, 20)}},
		{"all but it", span(9, 3), []add{{span(3, 9), 0}}, []api.Span{span(9, 3)}},
		{"both ends at once", span(0, 10), []add{{span(8, 3), 5}}, []api.Span{span(3, 8)}},
		{"all but one value", span(0, 10), []add{{span(6, 5), 9}}, []api.Span{span(5, 6)}},
		{"the same twice", span(0, 10), []add{{span(2, 5), 3}, {span(2, 5), 0}}, []api.Span{span(0, 2), span(5, 10)}},
		{"a part of what was", span(0, 10), []add{{span(2, 5), 3}, {span(3, 4), 0}}, []api.Span{span(0, 2), span(5, 10)}},
		{"over each other", span(0, 10), []add{{span(2, 5), 3}, {span(4, 8), 3}}, []api.Span{span(0, 2), span(8, 10)}},
		{"behind each other", span(0, 10), []add{{span(2, 5), 3}, {span(5, 8), 3}}, []api.Span{span(0, 2), span(8, 10)}},
		{"between", span(0, 10), []add{{span(2, 4), 2}, {span(6, 8), 2}, {span(4, 6), 2}}, []api.Span{span(0, 2), span(8, 10)}},
		{"over several gaps", span(0, 20), []add{{span(4, 6), 2}, {span(9, 11), 2}, {span(14, 16), 2}, {span(2, 18), 10}},
			[]api.Span{span(0, 2), span(18, 20)}},
		{"from a gap's end to a gap's beginning", span(0, 20), []add{{span(4, 6), 2}, {span(9, 11), 2}, {span(4, 11), 3}},
			[]api.Span{span(0, 4), span(11, 20)}},
		{"piece by piece", span(0, 10), []add{{span(0, 3), 3}, {span(7, 10), 3}, {span(3, 7), 4}}, nil},
		{"what is whole", span(0, 10), []add{{span(0, 10), 10}, {span(2, 5), 0}, {span(7, 7), 0}}, nil},
		{"one value at the seam", span(top, 0), []add{{span(0, top), 0}, {span(top, 0), 1}}, nil},
		{"the seam", span(top-4, 5), []add{{span(top, 2), 3}}, []api.Span{span(top-4, top), span(2, 5)}},
		{"the seam, the last value", span(top-4, 5), []add{{span(top-1, top), 1}, {span(top, 0), 1}},
			[]api.Span{span(top-4, top-1), span(0, 5)}},
		{"all but 0", span(0, top), []add{{span(top, 0), 0}, {span(half, top), half - 1}}, []api.Span{span(0, half)}},
	} {
		c := cover.New(r.of)
		for _, a := range r.adds {
			if got := c.Add(a.s); got != a.n {
				t.Errorf("%s: Add(%v): %d; want %d", r.what, a.s, got, a.n)
			}
		}
		check(t, r.what, c, r.gaps)
	}
}

// TestP2_1Circle is of the whole circle: its From is where the order begins, and no gap goes on over it.
func TestP2_1Circle(t *testing.T) {
	for _, r := range []struct {
		what string
		of   api.Span
		adds []add
		gaps []api.Span
	}{
		{"nothing", span(4, 4), nil, []api.Span{span(4, 4)}},
		{"nothing, from 0", span(0, 0), nil, []api.Span{span(0, 0)}},
		{"nothing, from the last value", span(top, top), nil, []api.Span{span(top, top)}},
		{"the whole", span(4, 4), []add{{span(4, 4), round}}, nil},
		{"the whole, from elsewhere", span(4, 4), []add{{span(9, 9), round}}, nil},
		{"in the middle", span(4, 4), []add{{span(7, 9), 2}}, []api.Span{span(4, 7), span(9, 4)}},
		{"over From", span(4, 4), []add{{span(2, 9), 7}}, []api.Span{span(9, 2)}},
		{"from From", span(4, 4), []add{{span(4, 9), 5}}, []api.Span{span(9, 4)}},
		{"up to From", span(4, 4), []add{{span(2, 4), 2}}, []api.Span{span(4, 2)}},
		{"From itself", span(4, 4), []add{{span(3, 4), 1}}, []api.Span{span(4, 3)}},
		{"all but From itself", span(4, 4), []add{{span(4, 3), top}}, []api.Span{span(3, 4)}},
		{"a gap over From is two", span(4, 4), []add{{span(9, 2), round - 7}}, []api.Span{span(4, 9), span(2, 4)}},
		{"two halves", span(4, 4), []add{{span(4, half), half - 4}, {span(half, 4), half + 4}}, nil},
		{"the whole, behind a part", span(4, 4), []add{{span(7, 9), 2}, {span(8, 8), round - 2}}, nil},
	} {
		c := cover.New(r.of)
		for _, a := range r.adds {
			if got := c.Add(a.s); got != a.n {
				t.Errorf("%s: Add(%v): %d; want %d", r.what, a.s, got, a.n)
			}
		}
		check(t, r.what, c, r.gaps)
	}
}

// TestP2_1Values counts value by value, in a short span that lies at the seam or elsewhere.
func TestP2_1Values(t *testing.T) {
	const width = 24
	for seed, from := range []uint32{0, 100, half - 7, top - 20, top - 12, top - 1, top} {
		next := strewn(uint64(seed))
		of := span(from, from+width)
		c := cover.New(of)
		var covered [width]bool
		for range 12 {
			// Some begin or end outside, and some go the long way round.
			a := span(from-4+next()%(width+8), from-4+next()%(width+8))
			n := uint64(0)
			for i := range covered {
				if !covered[i] && has(a, from+1+uint32(i)) {
					covered[i] = true
					n++
				}
			}
			if got := c.Add(a); got != n {
				t.Errorf("of %v: Add(%v): %d; want %d", of, a, got, n)
			}
			var want []api.Span
			for i := range covered {
				if covered[i] {
					continue
				}
				if i == 0 || covered[i-1] {
					want = append(want, span(from+uint32(i), from+uint32(i)))
				}
				want[len(want)-1].To++
			}
			check(t, "values", c, want)
		}
	}
}

// TestP2_1Everywhere holds each pair of edge spans, and long rows of strewn ones, against what plain cuts tell.
func TestP2_1Everywhere(t *testing.T) {
	all := edges()
	for _, of := range all {
		for _, a := range all {
			c := cover.New(of)
			want := gaps(of, []api.Span{a})
			if got := c.Add(a); got != size(of)-sum(want) {
				t.Errorf("of %v: Add(%v): %d; want %d", of, a, got, size(of)-sum(want))
			}
			check(t, "edges", c, want)
		}
	}
	for seed := range uint64(60) {
		next := strewn(seed)
		of := span(next(), next())
		if seed%4 == 0 {
			of.To = of.From
		}
		c := cover.New(of)
		var added []api.Span
		for range 40 {
			from := next()
			a := span(from, from+1+next()>>(next()%24))
			added = append(added, a)
			before, want := c.Left(), gaps(of, added)
			if got := c.Add(a); got != before-sum(want) {
				t.Errorf("of %v: Add(%v): %d; want %d", of, a, got, before-sum(want))
			}
			check(t, "strewn", c, want)
		}
	}
}

// TestP2_1Many covers every second value of a long row, and then the others, from the last one on.
func TestP2_1Many(t *testing.T) {
	const pairs = 2000
	start := uint32(top - pairs)
	c := cover.New(span(start, start+2*pairs))
	for i := range uint32(pairs) {
		if got := c.Add(span(start+2*i, start+2*i+1)); got != 1 {
			t.Fatalf("Add of the value %d: %d", 2*i, got)
		}
	}
	l := c.Gaps()
	if len(l) != pairs || c.Left() != pairs || c.Whole() {
		t.Fatalf("%d gaps, %d left; want %d of both", len(l), c.Left(), pairs)
	}
	for i, s := range l {
		if want := span(start+2*uint32(i)+1, start+2*uint32(i)+2); s != want {
			t.Fatalf("the gap %d: %v; want %v", i, s, want)
		}
	}
	for i := range l {
		if got := c.Add(l[len(l)-1-i]); got != 1 {
			t.Fatalf("Add of the gap %d from the end: %d", i, got)
		}
	}
	check(t, "many", c, nil)
}

func TestP2_1Fork(t *testing.T) {
	of := span(4, 4)
	first := cover.New(of)
	first.Add(span(7, 9))
	second := first.Fork()
	check(t, "a fork", second, gaps(of, []api.Span{span(7, 9)}))

	if got := first.Add(span(20, 30)); got != 10 {
		t.Errorf("Add to what was forked: %d", got)
	}
	check(t, "a fork, the first one covered on", second, gaps(of, []api.Span{span(7, 9)}))
	if got := second.Add(span(8, 25)); got != 16 {
		t.Errorf("Add to a fork: %d", got)
	}
	check(t, "the first, its fork covered on", first, gaps(of, []api.Span{span(7, 9), span(20, 30)}))
	third := second.Fork().Fork()
	third.Add(of)
	check(t, "a fork's fork, covered whole", third, nil)
	check(t, "a fork, its own one covered whole", second, gaps(of, []api.Span{span(7, 9), span(8, 25)}))
	check(t, "a fork of what is whole", third.Fork(), nil)
}

func TestP2_1Nil(t *testing.T) {
	var c *cover.Cover
	for _, s := range edges() {
		if got := c.Add(s); got != 0 {
			t.Errorf("Add(%v) to nil: %d", s, got)
		}
	}
	if c.Gaps() != nil || c.Whole() || c.Left() != 0 || c.Fork() != nil {
		t.Errorf("of nil: %v, %v, %d, %v; want none, false, 0, nil", c.Gaps(), c.Whole(), c.Left(), c.Fork())
	}
}

// TestWhatFollows: in whatever order it is covered, the same is left.
func TestWhatFollows(t *testing.T) {
	for seed := range uint64(40) {
		next := strewn(seed)
		of := span(next(), next())
		if seed%3 == 0 {
			of.To = of.From
		}
		var l []api.Span
		for range 12 {
			from := next()
			l = append(l, span(from, from+1+next()>>(next()%12)))
		}
		want := gaps(of, l)
		for range 10 {
			c, n := cover.New(of), uint64(0)
			for _, s := range l {
				n += c.Add(s)
			}
			if n+c.Left() != size(of) {
				t.Errorf("of %v: %d covered and %d left do not make up %d", of, n, c.Left(), size(of))
			}
			check(t, "in some order", c, want)
			i := int(next() % uint32(len(l)))
			slices.Reverse(l[:i])
			slices.Reverse(l[i:])
		}
	}
}

// TestR1Plain: what New did not make does not panic either, and holds together.
func TestR1Plain(t *testing.T) {
	for _, s := range edges() {
		var c cover.Cover
		if n := c.Add(s); n != 0 || c.Left() != 0 || len(c.Gaps()) != 0 || !c.Whole() || !c.Fork().Whole() {
			t.Errorf("of none, with %v: %d, %d, %v, %v", s, n, c.Left(), c.Gaps(), c.Whole())
		}
	}
}

// TestR2Apart: what is done with one cover does not touch another one, whoever does it.
func TestR2Apart(t *testing.T) {
	var jobs sync.WaitGroup
	first := cover.New(span(4, 4))
	first.Add(span(7, 9))
	for _, s := range edges() {
		c := first.Fork()
		jobs.Go(func() {
			c.Add(s)
			if got, want := c.Gaps(), gaps(span(4, 4), []api.Span{span(7, 9), s}); !slices.Equal(got, want) {
				t.Errorf("with %v: %v; want %v", s, got, want)
			}
		})
	}
	jobs.Wait()

	// A plain copy is another object, too: whether the gaps stay as many, or get more, or fewer.
	for _, s := range []api.Span{span(5, 8), span(20, 30), span(3, 8), span(50, 50)} {
		added := []api.Span{span(7, 9), span(40, 60)}
		c := cover.New(span(4, 4))
		c.Add(added[0])
		c.Add(added[1])
		plain := *c
		c.Add(s)
		check(t, "a plain copy", &plain, gaps(span(4, 4), added))
	}
}

// TestR2Reading: who only asks changes nothing.
func TestR2Reading(t *testing.T) {
	of, added := span(top-9, 40), []api.Span{span(3, 6), span(12, 30)}
	c := cover.New(of)
	for _, s := range added {
		c.Add(s)
	}
	for range 3 {
		c.Fork()
		check(t, "asked again", c, gaps(of, added))
	}
}

// TestR3NewMemory: who writes into an answer, and into the room behind its end, changes no other one.
func TestR3NewMemory(t *testing.T) {
	of, added := span(0, 100), []api.Span{span(10, 20), span(30, 40), span(60, 70)}
	c := cover.New(of)
	for _, s := range added {
		c.Add(s)
		l := c.Gaps()
		l = l[:cap(l)]
		for i := range l {
			l[i] = span(77, 78)
		}
	}
	check(t, "written into", c, gaps(of, added))
}
