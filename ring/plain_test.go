package ring_test

import (
	"math"
	"slices"
	"testing"

	"petasos/api"
	"petasos/ring"
)

const (
	half = 1 << 31
	top  = math.MaxUint32
)

// plain is the chapter's ring by a list that is gone through: nothing goes round in it, there is only what is below and
// what is above.
type plain struct{ list []uint32 } // rising

func (p *plain) add(v uint32) api.Errno {
	switch {
	case slices.Contains(p.list, v):
		return api.ErrThere
	case len(p.list) == api.MaxNodes:
		return api.ErrFull
	}
	p.list = append(slices.Clone(p.list), v)
	slices.Sort(p.list)
	return api.OK
}

func (p *plain) drop(v uint32) api.Errno {
	if !slices.Contains(p.list, v) {
		return api.ErrNone
	}
	p.list = slices.DeleteFunc(slices.Clone(p.list), func(x uint32) bool { return x == v })
	return api.OK
}

// behind is the points that come behind v, in order: those that are above it, and then those that are below.
func (p *plain) behind(v uint32) []uint32 {
	var above, below []uint32
	for _, x := range p.list {
		if x > v {
			above = append(above, x)
		}
		if x < v {
			below = append(below, x)
		}
	}
	return append(above, below...)
}

// next is the first point behind v, or v itself, if it is the only one.
func (p *plain) next(v uint32) (uint32, bool) {
	if l := p.behind(v); len(l) > 0 {
		return l[0], true
	}
	if slices.Contains(p.list, v) {
		return v, true
	}
	return 0, false
}

func (p *plain) owner(v uint32) (uint32, bool) {
	if slices.Contains(p.list, v) {
		return v, true
	}
	return p.next(v)
}

func (p *plain) span(v uint32) (api.Span, bool) {
	if !slices.Contains(p.list, v) {
		return api.Span{}, false
	}
	l := append([]uint32{v}, p.behind(v)...)
	return api.Span{From: l[len(l)-1], To: v}, true
}

func (p *plain) heirs(v uint32, n int) []uint32 {
	var l []uint32
	for _, x := range p.behind(v) {
		if len(l) < n {
			l = append(l, x)
		}
	}
	return l
}

// pair is a ring, and a plain one, to which the same is done; what both answer is held against each other.
type pair struct {
	ring *ring.Ring
	like *plain
}

func newPair() pair { return pair{ring.New(), &plain{}} }

// filled is a pair of these points, none of which is twice.
func filled(t *testing.T, l ...uint32) pair {
	t.Helper()
	p := newPair()
	for _, v := range l {
		if p.add(t, v) != api.OK {
			t.Fatalf("Add(%d): not OK", v)
		}
	}
	return p
}

func (p pair) add(t *testing.T, v uint32) api.Errno {
	t.Helper()
	got, want := p.ring.Add(v), p.like.add(v)
	if got != want {
		t.Errorf("Add(%d): error %d; want %d", v, got, want)
	}
	return got
}

func (p pair) drop(t *testing.T, v uint32) api.Errno {
	t.Helper()
	got, want := p.ring.Drop(v), p.like.drop(v)
	if got != want {
		t.Errorf("Drop(%d): error %d; want %d", v, got, want)
	}
	return got
}

func (p pair) fork() pair { return pair{p.ring.Fork(), &plain{slices.Clone(p.like.list)}} }

// plainCopy is another one, too, but Fork has not made it.
func (p pair) plainCopy() pair {
	r := *p.ring
	return pair{&r, &plain{slices.Clone(p.like.list)}}
}

// check asks for all that there is, and of each point, of its neighbours, and of edges whatever there is to ask.
func (p pair) check(t *testing.T, what string) {
	t.Helper()
	if t.Failed() {
		t.Fatalf("%s: stopped", what)
	}
	want := p.like.list
	if got := p.ring.Points(); !slices.Equal(got, want) {
		t.Errorf("%s: Points: %v; want %v", what, got, want)
	}
	asked := edges()
	for _, v := range want {
		asked = append(asked, v-1, v, v+1, v+half)
	}
	for _, v := range asked {
		p.ask(t, what, v)
	}
	if t.Failed() {
		t.Fatalf("%s: it has not what it should have: %v", what, want)
	}
}

// ask asks all that there is to ask of one value.
func (p pair) ask(t *testing.T, what string, v uint32) {
	t.Helper()
	if got, want := p.ring.Has(v), slices.Contains(p.like.list, v); got != want {
		t.Errorf("%s: Has(%d): %v; want %v", what, v, got, want)
	}
	gotOwner, gotIs := p.ring.Owner(v)
	if want, is := p.like.owner(v); gotOwner != want || gotIs != is {
		t.Errorf("%s: Owner(%d): %d, %v; want %d, %v", what, v, gotOwner, gotIs, want, is)
	}
	gotNext, gotIs := p.ring.Next(v)
	if want, is := p.like.next(v); gotNext != want || gotIs != is {
		t.Errorf("%s: Next(%d): %d, %v; want %d, %v", what, v, gotNext, gotIs, want, is)
	}
	gotSpan, gotIs := p.ring.Span(v)
	if want, is := p.like.span(v); gotSpan != want || gotIs != is {
		t.Errorf("%s: Span(%d): %v, %v; want %v, %v", what, v, gotSpan, gotIs, want, is)
	}
	for _, n := range []int{math.MinInt, -1, 0, 1, 2, 3, len(p.like.list) - 1, len(p.like.list), len(p.like.list) + 1, math.MaxInt} {
		if got, want := p.ring.Heirs(v, n), p.like.heirs(v, n); !slices.Equal(got, want) {
			t.Errorf("%s: Heirs(%d, %d): %v; want %v", what, v, n, got, want)
		}
	}
}

// edges are values such as something might go wrong at.
func edges() []uint32 {
	return []uint32{0, 1, 2, 5, 1<<16 - 1, 1 << 16, half - 1, half, half + 1, top - 5, top - 2, top - 1, top}
}

// many is n points from all over the circle, rising, the first and the last value among them.
func many(n int) []uint32 {
	l := []uint32{0, top}
	for i := range n - 2 {
		l = append(l, uint32(i+1)*(top/uint32(n)))
	}
	slices.Sort(l)
	return l
}

// strewn makes numbers one after the other, alike for the same seed.
func strewn(seed uint64) func(n int) int {
	return func(n int) int {
		seed = seed*6364136223846793005 + 1442695040888963407
		return int(seed>>33) % n
	}
}

// mixed is l in another order.
func mixed(l []uint32, next func(int) int) []uint32 {
	l = slices.Clone(l)
	for i := range l {
		k := next(i + 1)
		l[i], l[k] = l[k], l[i]
	}
	return l
}

// orders is l in each order that there is.
func orders(l []uint32) [][]uint32 {
	if len(l) == 0 {
		return [][]uint32{nil}
	}
	var all [][]uint32
	for i := range l {
		for _, rest := range orders(slices.Concat(l[:i], l[i+1:])) {
			all = append(all, append([]uint32{l[i]}, rest...))
		}
	}
	return all
}

// spoil writes into l, and into the room behind its end.
func spoil(l []uint32) {
	l = l[:cap(l)]
	for i := range l {
		l[i] ^= 0xeeeeeeee
	}
}
