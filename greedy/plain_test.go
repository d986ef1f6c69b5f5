package greedy_test

import (
	"maps"
	"math"
	"slices"
	"testing"

	"petasos/api"
	"petasos/greedy"
	"petasos/ring"
)

const (
	half  = 1 << 31
	top   = math.MaxUint32
	whole = 1 << 32
)

// met is how a plain next came to what it told.
type met struct{ noPoint, owned, owner, next, link, seam int }

func (m *met) add(o met) {
	*m = met{m.noPoint + o.noPoint, m.owned + o.owned, m.owner + o.owner, m.next + o.next, m.link + o.link, m.seam + o.seam}
}

// line is the points laid in the order in which they come from at on, and v among them, as numbers that do not go round:
// what is below at has a round on top of it.
func line(points []uint32, at, v uint32) (laid []uint64, place uint64) {
	lift := func(x uint32) uint64 {
		if x < at {
			return uint64(x) + whole
		}
		return uint64(x)
	}
	for _, p := range points {
		laid = append(laid, lift(p))
	}
	slices.Sort(laid)
	return laid, lift(v)
}

// plainNext is the chapter's Next by a line that is gone along: of what is ahead of v the last one that is known counts.
func plainNext(points, links []uint32, at, v uint32) (uint32, bool, met) {
	if !slices.Contains(points, at) {
		return 0, false, met{noPoint: 1}
	}
	laid, place := line(points, at, v)
	if place == laid[0] || place > laid[len(laid)-1] {
		return 0, false, met{owned: 1}
	}
	if laid[1] >= place {
		return uint32(laid[1] % whole), true, met{owner: 1}
	}
	told, m := laid[1], met{next: 1}
	for _, p := range laid[2:] {
		if p < place && slices.Contains(links, uint32(p%whole)) {
			told, m = p, met{link: 1}
		}
	}
	if told >= whole {
		m.seam = 1
	}
	return uint32(told % whole), true, m
}

// plainWay is the chapter's Way: by plainNext, at most as often as there are points.
func plainWay(points []uint32, links map[uint32][]uint32, at, v uint32) ([]uint32, bool) {
	if !slices.Contains(points, at) {
		return nil, false
	}
	way := []uint32{at}
	for range points {
		last := way[len(way)-1]
		p, is, _ := plainNext(points, links[last], last, v)
		if !is {
			return way, true
		}
		way = append(way, p)
	}
	panic("a plain way that does not end")
}

// plainOwner is the first of points, rising, from v on.
func plainOwner(points []uint32, v uint32) uint32 {
	for _, p := range points {
		if p >= v {
			return p
		}
	}
	return points[0]
}

// scene is a ring, and the points that it has, rising.
type scene struct {
	ring   *ring.Ring
	points []uint32
}

// of is a scene of these points, in whatever order they come, however often.
func of(t *testing.T, l ...uint32) scene {
	t.Helper()
	r := ring.New()
	for _, p := range l {
		if err := r.Add(p); err != api.OK && err != api.ErrThere {
			t.Fatalf("Add(%d): error %d", p, err)
		}
	}
	points := slices.Clone(l)
	slices.Sort(points)
	return scene{r, slices.Compact(points)}
}

// next asks where to go on, and holds that, and the ring and the links behind it, against what should be.
func (s scene) next(t *testing.T, what string, links []uint32, at, v uint32) met {
	t.Helper()
	want, wantIs, m := plainNext(s.points, links, at, v)
	given := slices.Clone(links)
	if got, is := greedy.Next(s.ring, given, at, v); got != want || is != wantIs {
		t.Errorf("%s: of %v: Next(%v, %d, %d): %d, %v; want %d, %v", what, s.points, links, at, v, got, is, want, wantIs)
	}
	if !slices.Equal(given, links) {
		t.Errorf("%s: of %v: Next(%d, %d) made the links %v to %v", what, s.points, at, v, links, given)
	}
	s.check(t, what)
	return m
}

// way asks for a way, holds that, the ring and the map against what should be, and that the way is one: it begins at at,
// each of its points is told by Next of the one ahead of it, none comes twice, and the last one owns v.
func (s scene) way(t *testing.T, what string, links map[uint32][]uint32, at, v uint32) []uint32 {
	t.Helper()
	want, wantIs := plainWay(s.points, links, at, v)
	given := copied(links)
	got, is := way(t, s.ring, given, at, v)
	if !slices.Equal(got, want) || is != wantIs {
		t.Fatalf("%s: of %v: Way(%v, %d, %d): %v, %v; want %v, %v", what, s.points, links, at, v, got, is, want, wantIs)
	}
	if !maps.EqualFunc(given, links, slices.Equal) {
		t.Errorf("%s: of %v: Way(%d, %d) made the links %v to %v", what, s.points, at, v, links, given)
	}
	s.check(t, what)
	if !is {
		return got
	}
	for i, p := range got {
		if slices.Contains(got[:i], p) || !slices.Contains(s.points, p) {
			t.Fatalf("%s: of %v: Way(%v, %d, %d): %v: %d comes twice, or is no point", what, s.points, links, at, v, got, p)
		}
		after, goesOn := greedy.Next(s.ring, links[p], p, v)
		if goesOn != (i+1 < len(got)) || goesOn && after != got[i+1] {
			t.Fatalf("%s: of %v: Way(%v, %d, %d): %v; but Next(%d): %d, %v", what, s.points, links, at, v, got, p, after, goesOn)
		}
	}
	if last := got[len(got)-1]; got[0] != at || last != plainOwner(s.points, v) || len(got) > len(s.points) {
		t.Fatalf("%s: of %v: Way(%v, %d, %d): %v", what, s.points, links, at, v, got)
	}
	return got
}

// way asks for a way, but not where Next leads on for ever: there it would never be told.
func way(t *testing.T, r *ring.Ring, links map[uint32][]uint32, at, v uint32) ([]uint32, bool) {
	t.Helper()
	p := at
	for range api.MaxNodes {
		next, is := greedy.Next(r, links[p], p, v)
		if !is {
			return greedy.Way(r, links, at, v)
		}
		p = next
	}
	t.Fatalf("of %v: by links %v Next leads on from %d to %d for ever", r.Points(), links, at, v)
	return nil, false
}

// check holds that the ring has still the points that it had.
func (s scene) check(t *testing.T, what string) {
	t.Helper()
	if got := s.ring.Points(); !slices.Equal(got, s.points) {
		t.Fatalf("%s: the ring has %v; want %v", what, got, s.points)
	}
}

// asked are values at which something might go wrong: edges, and what lies at, around and across from each point.
func (s scene) asked() []uint32 {
	l := []uint32{0, 1, 2, 1<<16 - 1, 1 << 16, half - 1, half, half + 1, top - 2, top - 1, top}
	for _, p := range s.points {
		l = append(l, p-1, p, p+1, p+half)
	}
	return l
}

// copied is a map of its own, with lists of its own.
func copied(m map[uint32][]uint32) map[uint32][]uint32 {
	if m == nil {
		return nil
	}
	c := map[uint32][]uint32{}
	for p, l := range m {
		c[p] = slices.Clone(l)
	}
	return c
}

// roll makes numbers one after the other, alike for the same seed.
func roll(seed uint64) func(n int) int {
	seed ^= 0x9e3779b97f4a7c15
	return func(n int) int {
		seed = seed*6364136223846793005 + 1442695040888963407
		return int((seed >> 33) % uint64(n))
	}
}

// strewn is n values from all over the circle, some of them close to p.
func strewn(next func(int) int, p uint32, n int) []uint32 {
	var l []uint32
	for range n {
		l = append(l, p+uint32(uint64(next(half))<<1|uint64(next(2)))>>next(32))
	}
	return l
}

// even is n points all over the circle, 0 and the greatest value among them.
func even(n int) []uint32 {
	l := []uint32{0, top}
	for i := range n - 2 {
		l = append(l, uint32(i+1)*(top/uint32(n)))
	}
	return l[:n]
}

// orders is l in each order that there is.
func orders(l []uint32) [][]uint32 {
	if len(l) == 0 {
		return [][]uint32{nil}
	}
	var all [][]uint32
	for i := range l {
		for _, rest := range orders(slices.Concat(l[:i], l[i+1:])) {
			all = append(all, append([]uint32{l[i]}, rest...))
		}
	}
	return all
}

// parts is each list that has some of l, in l's order.
func parts(l []uint32) [][]uint32 {
	var all [][]uint32
	for bits := range 1 << len(l) {
		var some []uint32
		for i, x := range l {
			if bits>>i&1 == 1 {
				some = append(some, x)
			}
		}
		all = append(all, some)
	}
	return all
}

// spoil writes into l, and into the room behind its end.
func spoil(l []uint32) {
	l = l[:cap(l)]
	for i := range l {
		l[i] ^= 0xeeeeeeee
	}
}
