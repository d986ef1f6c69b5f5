package links_test

import (
	"math"
	"slices"
	"testing"

	"petasos/api"
	"petasos/dice"
	"petasos/links"
	"petasos/ring"
)

const (
	half  = 1 << 31
	top   = math.MaxUint32
	whole = 1 << 32
)

// plainFar is the chapter's Far by powers that are made by doubling, and a rest that is told by a division.
func plainFar(d *dice.Dice) uint64 {
	power := uint64(1)
	for range d.Roll(32) {
		power += power
	}
	step := d.Step()
	return power + step - step/power*power
}

// met is what a plain Of came to.
type met struct{ itself, next, twice, above, below int }

// plainOf is the chapter's Of: the points, rising, are laid twice one behind the other, so that nothing goes round.
func plainOf(points []uint32, p uint32, n int, d *dice.Dice) ([]uint32, met) {
	at, count := slices.Index(points, p), len(points)
	if at < 0 {
		return nil, met{}
	}
	var line []uint64
	for i := range 2 * count {
		line = append(line, uint64(points[i%count])+uint64(i/count)*whole)
	}
	times := make([]int, 2*count)
	for i := 0; i < n && i < 6; i++ {
		far := line[at] + plainFar(d)
		k := at
		for line[k] < far {
			k++
		}
		times[k]++
	}
	m := met{itself: times[at+count]}
	var l []uint32
	for i := at + 1; i < at+count; i++ {
		switch {
		case i == at+1:
			m.next = times[i]
		case times[i] > 0:
			l = append(l, uint32(line[i]%whole))
			m.twice += times[i] - 1
			if i < count {
				m.above++
			} else {
				m.below++
			}
		}
	}
	return l, m
}

// scene is a ring, and the points that it has, rising.
type scene struct {
	ring   *ring.Ring
	points []uint32
}

// of is a scene of these points, in whatever order they come, however often.
func of(t *testing.T, l ...uint32) scene {
	t.Helper()
	r := ring.New()
	for _, p := range l {
		if err := r.Add(p); err != api.OK && err != api.ErrThere {
			t.Fatalf("Add(%d): error %d", p, err)
		}
	}
	points := slices.Clone(l)
	slices.Sort(points)
	return scene{r, slices.Compact(points)}
}

// ask asks for links, and holds them, how the dice stand behind that, and the ring against what should be.
func (s scene) ask(t *testing.T, what string, p uint32, n int, d *dice.Dice) met {
	t.Helper()
	like := d.Fork()
	want, m := plainOf(s.points, p, n, like)
	if got := links.Of(s.ring, p, n, d); !slices.Equal(got, want) {
		t.Errorf("%s: of %v: Of(%d, %d): %v; want %v", what, s.points, p, n, got, want)
	}
	alike(t, what, d, like)
	if got := s.ring.Points(); !slices.Equal(got, s.points) {
		t.Errorf("%s: the ring has %v behind Of(%d, %d); want %v", what, got, p, n, s.points)
	}
	return m
}

// alike holds that two dice stand alike, and leaves them so.
func alike(t *testing.T, what string, got, want *dice.Dice) {
	t.Helper()
	got, want = got.Fork(), want.Fork()
	for range 3 {
		if g, w := got.Step(), want.Step(); g != w {
			t.Errorf("%s: the dice stand elsewhere: a step of %#x; want %#x", what, g, w)
		}
	}
}

// at is dice of a seed that made so many steps.
func at(seed uint64, made int) *dice.Dice {
	d := dice.New(seed)
	for range made {
		d.Step()
	}
	return d
}

// rolls is a seed whose dice tell v first by Far: their second step is worked back to the state ahead of it, and of the
// steps that would do there is one ahead of which the power is rolled.
func rolls(v uint32) uint64 {
	const stride = 0x9e3779b97f4a7c15
	b := 0
	for v>>b > 1 {
		b++
	}
	for high := uint64(0); ; high++ {
		x := high<<b | uint64(v)&(1<<b-1)
		x = (x ^ x>>31 ^ x>>62) * 0x319642b2d24d8ec3
		x = (x ^ x>>27 ^ x>>54) * 0x96de1b173f119089
		x = x ^ x>>30 ^ x>>60
		if seed := x - stride - stride; dice.New(seed).Roll(32) == b {
			return seed
		}
	}
}

// seeds are edges, and others.
func seeds(n int) []uint64 {
	l := []uint64{0, 1, 42, 1<<32 - 1, 1 << 32, 1 << 63, math.MaxUint64 - 1, math.MaxUint64, 0x61c8864680b583eb, 0xc3910c8d016b07d6}
	for i := range uint64(n) {
		l = append(l, (i+2)*0xd1342543de82ef95)
	}
	return l
}

// counts are such as Of may be asked for; those behind the first seven are none, and as many as there may be.
func counts() []int {
	return []int{0, 1, 2, 3, 4, 5, 6, 7, 8, 12, 64, 65, 255, 256, 1 << 31, math.MaxInt32, math.MaxInt - 1, math.MaxInt,
		-1, -2, -6, -7, -256, math.MinInt32, -1 << 32, -1<<32 + 3, math.MinInt + 1, math.MinInt}
}

// spread is n points, p among them: the others lie ever farther off, so that each is about as likely to be come to from p.
func spread(p uint32, n int) []uint32 {
	l := []uint32{p}
	for i := range n - 1 {
		l = append(l, p+uint32(math.Exp2(32*float64(i+1)/float64(n)))-1+uint32(i))
	}
	return l
}

// even is n points all over the circle, the greatest value among them.
func even(n int) []uint32 {
	l := []uint32{top}
	for i := range n - 1 {
		l = append(l, uint32(i+1)*(top/uint32(n)))
	}
	return l
}

// places are where a point may stand, so that something might go wrong.
func places() []uint32 {
	return []uint32{0, 1, 10, 1 << 16, half - 1, half, half + 1, top - 500, top - 1, top}
}

// spoil writes into l, and into the room behind its end.
func spoil(l []uint32) {
	l = l[:cap(l)]
	for i := range l {
		l[i] ^= 0xeeeeeeee
	}
}
