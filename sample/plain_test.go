package sample_test

import (
	"maps"
	"math"
	"math/big"
	"slices"
	"testing"

	"petasos/api"
	"petasos/dice"
	"petasos/ring"
	"petasos/sample"
)

const (
	half  = 1 << 31
	top   = math.MaxUint32
	cap31 = math.MaxInt32
	most  = 1000
)

// known is links, by point.
type known = map[uint32][]uint32

// met is what a plain walk came to: steps to Next, to Next by a link, and by other links, those that led nowhere else and
// those that led round the end among them; and links that were no points, ahead of one that is, and that were named twice.
type met struct{ next, named, link, itself, round, strange, twice int }

// plainWalk is the chapter's Walk: the points, rising, are told by their places, and a link by how many good ones there
// are ahead of it; the dice make a step, of which the rest is told by a division.
func plainWalk(points []uint32, links known, at uint32, steps int, d *dice.Dice) ([]uint32, met) {
	place := slices.Index(points, at)
	if place < 0 {
		return nil, met{}
	}
	var m met
	walk := []uint32{at}
	for len(walk) <= steps && len(walk) <= most {
		here := points[place]
		next := points[(place+1)%len(points)]
		good := 0
		for _, p := range links[here] {
			if slices.Contains(points, p) {
				good++
			}
		}
		step, count := d.Step(), uint64(good)+1
		left := int(step - step/count*count)
		if left == 0 {
			m.next++
			place = slices.Index(points, next)
			walk = append(walk, next)
			continue
		}
		for i, p := range links[here] {
			switch {
			case !slices.Contains(points, p):
				m.strange++
				continue
			case left > 1:
				left--
				continue
			}
			m.tell(here, next, p, slices.Contains(links[here][:i], p))
			place = slices.Index(points, p)
			break
		}
		walk = append(walk, points[place])
	}
	return walk, m
}

// tell counts what a link leads to.
func (m *met) tell(here, next, p uint32, again bool) {
	switch {
	case p == next:
		m.named++
	case p == here:
		m.itself++
	default:
		m.link++
	}
	if p < here {
		m.round++
	}
	if again {
		m.twice++
	}
}

// plainMean is the chapter's Mean, in numbers of any length.
func plainMean(l []api.Load) uint64 {
	if len(l) == 0 {
		return 0
	}
	sum := new(big.Int)
	for _, x := range l {
		switch {
		case x.Entries > cap31:
			sum.Add(sum, big.NewInt(cap31))
		case x.Entries > 0:
			sum.Add(sum, big.NewInt(int64(x.Entries)))
		}
	}
	sum.Mul(sum, big.NewInt(256))
	return sum.Div(sum, big.NewInt(int64(len(l)))).Uint64()
}

// scene is a ring, the points that it has, rising, and links.
type scene struct {
	ring   *ring.Ring
	points []uint32
	links  known
}

// of is a scene of these points, in whatever order they come, however often.
func of(t *testing.T, links known, l ...uint32) scene {
	t.Helper()
	r := ring.New()
	for _, p := range l {
		if err := r.Add(p); err != api.OK && err != api.ErrThere {
			t.Fatalf("Add(%d): error %d", p, err)
		}
	}
	points := slices.Clone(l)
	slices.Sort(points)
	return scene{r, slices.Compact(points), links}
}

// ask asks for a walk, by links whose lists have room behind their ends, and holds what is told, how the dice stand
// behind that, the ring, and the links against what should be.
func (s scene) ask(t *testing.T, what string, at uint32, steps int, d *dice.Dice) met {
	t.Helper()
	like, links := d.Fork(), roomy(s.links)
	was := copied(links)
	want, m := plainWalk(s.points, s.links, at, steps, like)
	if got := sample.Walk(s.ring, links, at, steps, d); !slices.Equal(got, want) {
		t.Errorf("%s: of %v, %v: Walk(%d, %d): %v; want %v", what, s.points, s.links, at, steps, got, want)
	}
	alike(t, what, d, like)
	if got := s.ring.Points(); !slices.Equal(got, s.points) {
		t.Errorf("%s: the ring has %v behind Walk(%d, %d); want %v", what, got, at, steps, s.points)
	}
	if got := copied(links); !maps.EqualFunc(got, was, slices.Equal) {
		t.Errorf("%s: the links, and the room behind them, are %v behind Walk(%d, %d); want %v", what, got, at, steps, was)
	}
	return m
}

// roomy is links whose lists have room behind their ends, in which there are numbers.
func roomy(links known) known {
	if links == nil {
		return nil
	}
	m := known{}
	for p, l := range links {
		m[p] = append(slices.Clone(l), p, 0, 7, top)[:len(l)]
	}
	return m
}

// copied is links, of which each list has all that its room has.
func copied(links known) known {
	m := known{}
	for p, l := range links {
		m[p] = slices.Clone(l[:cap(l)])
	}
	return m
}

// mean asks for a mean, of a list with room behind its end, and holds what is told, and the list, against what should be.
func mean(t *testing.T, what string, l []api.Load) uint64 {
	t.Helper()
	loads := append(slices.Clone(l), api.Load{Point: 1, Entries: 99}, api.Load{Entries: math.MinInt}, api.Load{Point: top, Entries: math.MaxInt})
	was, want := slices.Clone(loads), plainMean(l)
	got := sample.Mean(loads[:len(l)])
	if got != want {
		t.Errorf("%s: Mean of %d loads: %d; want %d", what, len(l), got, want)
	}
	if !slices.Equal(loads, was) {
		t.Errorf("%s: Mean of %d loads wrote into them, or into the room behind them", what, len(l))
	}
	return got
}

// loads are such of so many entries, at points that are alike, and others.
func loads(entries ...int) []api.Load {
	var l []api.Load
	for i, n := range entries {
		l = append(l, api.Load{Point: uint32(i/2) * 77, Entries: n})
	}
	return l
}

// alike holds that two dice stand alike, and leaves them so.
func alike(t *testing.T, what string, got, want *dice.Dice) {
	t.Helper()
	got, want = got.Fork(), want.Fork()
	for range 3 {
		if g, w := got.Step(), want.Step(); g != w {
			t.Errorf("%s: the dice stand elsewhere: a step of %#x; want %#x", what, g, w)
		}
	}
}

// at is dice of a seed that made so many steps.
func at(seed uint64, made int) *dice.Dice {
	d := dice.New(seed)
	for range made {
		d.Step()
	}
	return d
}

// choice is a roll: one place, of so many.
type choice struct{ of, place int }

// rolls is a seed whose dice roll just so.
func rolls(l []choice) uint64 {
	for seed := uint64(0); ; seed++ {
		d := dice.New(seed)
		if !slices.ContainsFunc(l, func(c choice) bool { return d.Roll(c.of) != c.place }) {
			return seed
		}
	}
}

// seeds are edges, and others.
func seeds(n int) []uint64 {
	l := []uint64{0, 1, 42, 1<<32 - 1, 1 << 32, 1 << 63, math.MaxUint64 - 1, math.MaxUint64, 0x61c8864680b583eb, 0xc3910c8d016b07d6}
	for i := range uint64(n) {
		l = append(l, (i+2)*0xd1342543de82ef95)
	}
	return l
}

// counts are steps that may be asked for; some of them are none, or more than there may be.
func counts() []int {
	return []int{0, 1, 2, 3, 64, 255, 256, most - 1, most, most + 1, most + 255, 1 << 16, 1<<16 + 1, 1 << 31, math.MaxInt32, 1<<32 + 1, math.MaxInt - 1,
		math.MaxInt, -1, -2, -255, -256, -most, -most - 1, math.MinInt32, -1 << 32, -1<<32 + 3, math.MinInt + 1, math.MinInt}
}

// even is n points all over the circle, the greatest value among them.
func even(n int) []uint32 {
	l := []uint32{top}
	for i := range n - 1 {
		l = append(l, uint32(i+1)*(top/uint32(n)))
	}
	return l
}

// places are where a point may stand, so that something might go wrong.
func places() []uint32 {
	return []uint32{0, 1, 10, 1 << 16, half - 1, half, half + 1, top - 500, top - 1, top}
}

// meshed is links of each point to n others that lie ever farther behind it, the farthest one first.
func meshed(l []uint32, n int) known {
	points := slices.Sorted(slices.Values(l))
	m := known{}
	for i, p := range points {
		for j := range n {
			m[p] = append(m[p], points[(i+1+(n-j)*(n-j))%len(points)])
		}
	}
	return m
}

// roll makes numbers one after the other, alike for the same seed.
func roll(seed uint64) func(n int) int {
	seed ^= 0x9e3779b97f4a7c15
	return func(n int) int {
		seed = seed*6364136223846793005 + 1442695040888963407
		return int((seed >> 33) % uint64(n))
	}
}

// strewn is a scene of up to MaxNodes points, close together or not, and links of most of them, and of some others, to
// points and to others.
func strewn(t *testing.T, next func(int) int) scene {
	t.Helper()
	base := places()[next(len(places()))]
	near := func() uint32 { return base + uint32(uint64(next(half))<<1|uint64(next(2)))>>next(32) }
	var l []uint32
	for range 1 + next(api.MaxNodes) {
		l = append(l, near())
	}
	s := of(t, known{}, l...)
	from := append(slices.Clone(s.points), near(), near(), near())
	for _, p := range from {
		if next(5) == 0 {
			continue
		}
		var list []uint32
		for range next(9) * next(3) {
			list = append(list, [...]uint32{near(), p, p + 1, s.points[next(len(s.points))], s.points[next(len(s.points))], from[0]}[next(6)])
		}
		s.links[p] = list
	}
	return s
}

// entries is how many a load might have, some of them none, and some close to what is the most.
func entries(next func(int) int) int {
	some := next(half) >> next(32)
	return [...]int{0, -some, some, some, cap31 - some, cap31 + some, math.MaxInt - some, math.MinInt + some}[next(8)]
}

// spoil writes into l, and into the room behind its end.
func spoil(l []uint32) {
	l = l[:cap(l)]
	for i := range l {
		l[i] ^= 0xeeeeeeee
	}
}
