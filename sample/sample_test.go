package sample_test

import (
	"maps"
	"math"
	"slices"
	"sync"
	"testing"

	"petasos/api"
	"petasos/dice"
	"petasos/ring"
	"petasos/sample"
)

// TestExample is the chapter's.
func TestExample(t *testing.T) {
	s := of(t, known{10: {30}}, 10, 20, 30)
	for _, p := range s.points {
		d := dice.New(1)
		if got := sample.Walk(s.ring, s.links, p, 0, d); !slices.Equal(got, []uint32{p}) {
			t.Errorf("Walk(%d) of no steps: %v; want %d", p, got, p)
		}
		alike(t, "no steps", d, dice.New(1))
	}
}

// TestP16_1Walk: steps whose rolls are known.
func TestP16_1Walk(t *testing.T) {
	four, ends := []uint32{10, 20, 30, 40}, []uint32{0, 5, top}
	for _, r := range []struct {
		what   string
		points []uint32
		links  known
		at     uint32
		rolled []choice
		want   []uint32
	}{
		{"one point", []uint32{3}, nil, 3, []choice{{1, 0}, {1, 0}, {1, 0}}, []uint32{3, 3, 3, 3}},
		{"one point, a link to itself, Next", []uint32{3}, known{3: {3}}, 3, []choice{{2, 0}, {2, 0}}, []uint32{3, 3, 3}},
		{"one point, a link to itself", []uint32{3}, known{3: {3}}, 3, []choice{{2, 1}, {2, 1}}, []uint32{3, 3, 3}},
		{"one point, links to others", []uint32{3}, known{3: {2, 4}}, 3, []choice{{1, 0}}, []uint32{3, 3}},
		{"two points", []uint32{3, 9}, nil, 3, []choice{{1, 0}, {1, 0}, {1, 0}}, []uint32{3, 9, 3, 9}},
		{"two points, of the other one", []uint32{3, 9}, nil, 9, []choice{{1, 0}, {1, 0}}, []uint32{9, 3, 9}},
		{"two points, a link to itself", []uint32{3, 9}, known{3: {3}}, 3, []choice{{2, 1}, {2, 0}, {1, 0}}, []uint32{3, 3, 9, 3}},
		{"two points, a link to Next", []uint32{3, 9}, known{9: {3}}, 3, []choice{{1, 0}, {2, 1}}, []uint32{3, 9, 3}},
		{"without links, once round", four, nil, 20, []choice{{1, 0}, {1, 0}, {1, 0}, {1, 0}}, []uint32{20, 30, 40, 10, 20}},
		{"links of others", four, known{20: {40}, 30: {10}, 40: {20}}, 10, []choice{{1, 0}}, []uint32{10, 20}},
		{"an empty list", four, known{10: {}}, 10, []choice{{1, 0}}, []uint32{10, 20}},
		{"a nil list", four, known{10: nil}, 10, []choice{{1, 0}}, []uint32{10, 20}},
		{"a link, Next", four, known{10: {40}}, 10, []choice{{2, 0}}, []uint32{10, 20}},
		{"a link", four, known{10: {40}}, 10, []choice{{2, 1}}, []uint32{10, 40}},
		{"links that rise, Next", four, known{10: {30, 40}}, 10, []choice{{3, 0}}, []uint32{10, 20}},
		{"links that rise, the first", four, known{10: {30, 40}}, 10, []choice{{3, 1}}, []uint32{10, 30}},
		{"links that rise, the last", four, known{10: {30, 40}}, 10, []choice{{3, 2}}, []uint32{10, 40}},
		{"links that fall, Next", four, known{10: {40, 30}}, 10, []choice{{3, 0}}, []uint32{10, 20}},
		{"links that fall, the first", four, known{10: {40, 30}}, 10, []choice{{3, 1}}, []uint32{10, 40}},
		{"links that fall, the last", four, known{10: {40, 30}}, 10, []choice{{3, 2}}, []uint32{10, 30}},
		{"links up and down, the first", four, known{20: {40, 10, 30}}, 20, []choice{{4, 1}}, []uint32{20, 40}},
		{"links up and down, the middle one", four, known{20: {40, 10, 30}}, 20, []choice{{4, 2}}, []uint32{20, 10}},
		{"links up and down, the last", four, known{20: {40, 10, 30}}, 20, []choice{{4, 3}}, []uint32{20, 30}},
		{"a link to Next, Next", four, known{10: {20, 40}}, 10, []choice{{3, 0}}, []uint32{10, 20}},
		{"a link to Next", four, known{10: {20, 40}}, 10, []choice{{3, 1}}, []uint32{10, 20}},
		{"a link behind one to Next", four, known{10: {20, 40}}, 10, []choice{{3, 2}}, []uint32{10, 40}},
		{"a link to itself, Next", four, known{10: {10, 40}}, 10, []choice{{3, 0}}, []uint32{10, 20}},
		{"a link to itself, and on from there", four, known{10: {10, 40}}, 10, []choice{{3, 1}, {3, 1}, {3, 2}}, []uint32{10, 10, 10, 40}},
		{"a link behind one to itself", four, known{10: {10, 40}}, 10, []choice{{3, 2}}, []uint32{10, 40}},
		{"a link twice, Next", four, known{10: {40, 40}}, 10, []choice{{3, 0}}, []uint32{10, 20}},
		{"a link twice, once", four, known{10: {40, 40}}, 10, []choice{{3, 1}}, []uint32{10, 40}},
		{"a link twice, again", four, known{10: {40, 40}}, 10, []choice{{3, 2}}, []uint32{10, 40}},
		{"a link twice, another one between", four, known{10: {40, 30, 40}}, 10, []choice{{4, 2}}, []uint32{10, 30}},
		{"a link twice, behind another one", four, known{10: {40, 30, 40}}, 10, []choice{{4, 3}}, []uint32{10, 40}},
		{"a link behind one that is there twice", four, known{10: {40, 40, 30}}, 10, []choice{{4, 3}}, []uint32{10, 30}},
		{"Next three times, and another one", four, known{10: {20, 20, 30}}, 10, []choice{{4, 3}}, []uint32{10, 30}},
		{"no points alone", four, known{10: {5, 15, 50}}, 10, []choice{{1, 0}}, []uint32{10, 20}},
		{"no point first", four, known{10: {5, 40}}, 10, []choice{{2, 1}}, []uint32{10, 40}},
		{"no point first, Next", four, known{10: {5, 40}}, 10, []choice{{2, 0}}, []uint32{10, 20}},
		{"no point last", four, known{10: {40, 5}}, 10, []choice{{2, 1}}, []uint32{10, 40}},
		{"no points between, the first", four, known{10: {5, 30, 15, 25, 40, 45}}, 10, []choice{{3, 1}}, []uint32{10, 30}},
		{"no points between, the last", four, known{10: {5, 30, 15, 25, 40, 45}}, 10, []choice{{3, 2}}, []uint32{10, 40}},
		{"no points close to points", four, known{10: {9, 11, 19, 21, 30, 41, 39}}, 10, []choice{{2, 1}}, []uint32{10, 30}},
		{"no point twice", four, known{10: {15, 15, 40}}, 10, []choice{{2, 1}}, []uint32{10, 40}},
		{"the value 0 is no point", four, known{10: {0, 40, 0}}, 10, []choice{{2, 1}}, []uint32{10, 40}},
		{"the greatest value is no point", four, known{10: {top, 40}}, 10, []choice{{2, 1}}, []uint32{10, 40}},
		{"points that 16 bits do not tell apart", four, known{10: {1<<16 + 20, 40, half + 30}}, 10, []choice{{2, 1}}, []uint32{10, 40}},
		{"links of what is no point", four, known{15: {40}, 5: {30}}, 10, []choice{{1, 0}, {1, 0}}, []uint32{10, 20, 30}},
		{"by links of where it is", four, known{10: {30}, 30: {10, 20}, 20: {10}}, 10, []choice{{2, 1}, {3, 2}, {2, 1}, {2, 0}}, []uint32{10, 30, 20, 10, 20}},
		{"by as many links as where it is has", four, known{10: {30, 40}, 40: {20}}, 10, []choice{{3, 2}, {2, 1}, {1, 0}}, []uint32{10, 40, 20, 30}},
		{"to and fro", four, known{10: {40}, 40: {40, 30}, 30: {10}}, 10, []choice{{2, 1}, {3, 2}, {2, 1}}, []uint32{10, 40, 30, 10}},
		{"round the end, Next", four, known{40: {20}}, 40, []choice{{2, 0}}, []uint32{40, 10}},
		{"round the end, a link", four, known{40: {20}}, 40, []choice{{2, 1}}, []uint32{40, 20}},
		{"the value 0, Next", ends, known{top: {5}}, top, []choice{{2, 0}, {1, 0}}, []uint32{top, 0, 5}},
		{"the value 0, a link", ends, known{5: {0}}, 5, []choice{{2, 1}}, []uint32{5, 0}},
		{"the value 0, itself", ends, known{0: {0, top}}, 0, []choice{{3, 1}, {3, 2}}, []uint32{0, 0, top}},
		{"the greatest value, Next", ends, nil, 5, []choice{{1, 0}, {1, 0}}, []uint32{5, top, 0}},
		{"the greatest value, a link", ends, known{0: {top}}, 0, []choice{{2, 1}, {1, 0}}, []uint32{0, top, 0}},
		{"the greatest value, itself", ends, known{top: {top}}, top, []choice{{2, 1}, {2, 0}}, []uint32{top, top, 0}},
		{"more links than MaxLinks", four, known{10: {10, 20, 10, 20, 10, 20, 40, 30}}, 10, []choice{{9, 7}, {1, 0}}, []uint32{10, 40, 10}},
		{"the last of more links than MaxLinks", four, known{10: {10, 20, 10, 20, 10, 20, 40, 30}}, 10, []choice{{9, 8}}, []uint32{10, 30}},
	} {
		s, seed := of(t, r.links, r.points...), rolls(r.rolled)
		if got := sample.Walk(s.ring, r.links, r.at, len(r.rolled), dice.New(seed)); !slices.Equal(got, r.want) {
			t.Errorf("%s: of %v, %v: Walk(%d), rolled %v: %v; want %v", r.what, r.points, r.links, r.at, r.rolled, got, r.want)
		}
		for n := range len(r.rolled) + 3 {
			d := dice.New(seed)
			s.ask(t, r.what, r.at, n, d)
			alike(t, r.what, d, at(seed, n))
		}
	}
}

// TestP16_1WalkRolled holds walks against such as were worked out elsewhere.
func TestP16_1WalkRolled(t *testing.T) {
	const far = half
	points := []uint32{10, 20, 30, 40, far, top}
	links := known{10: {30, far}, 20: {40, 5, top, 20}, 30: {10, 10, 10}, 40: {}, far: {1, 2, 3}, top: {40, 30, 20, 10}}
	for _, r := range []struct {
		seed      uint64
		ten, more []uint32
	}{
		{0, []uint32{10, 30, 40, far, top, 30, 10, far, top, 10, far, top, 40}, []uint32{20, 20, 30, 10, 30, 10}},
		{1, []uint32{10, far, top, 10, far, top, 20, 40, far, top, 10, 20, top}, []uint32{20, 40, far, top, 10, 20}},
		{2, []uint32{10, 30, 10, 20, 30, 10, 20, top, 10, 20, 30, 10, 30}, []uint32{20, top, 40, far, top, 10}},
		{3, []uint32{10, 20, 40, far, top, 40, far, top, 10, far, top, 10, 20}, []uint32{20, 40, far, top, 30, 10}},
		{42, []uint32{10, 30, 10, 20, 30, 10, 20, 40, far, top, 10, far, top}, []uint32{20, 40, far, top, 10, 30}},
		{1 << 32, []uint32{10, 30, 10, 30, 10, 30, 40, far, top, 20, 30, 10, 20}, []uint32{20, 30, 10, 30, 10, 30}},
		{1 << 63, []uint32{10, 30, 10, 30, 10, 30, 10, 20, 40, far, top, 40, far}, []uint32{20, 20, top, 10, 30, 10}},
		{math.MaxUint64, []uint32{10, far, top, 40, far, top, 10, 30, 40, far, top, 10, 30}, []uint32{20, 30, 10, 30, 10, 20}},
	} {
		s := of(t, links, points...)
		for _, want := range [][]uint32{r.ten, r.more} {
			d := dice.New(r.seed)
			if got := sample.Walk(s.ring, links, want[0], len(want)-1, d); !slices.Equal(got, want) {
				t.Errorf("the seed %#x: Walk(%d): %v; want %v", r.seed, want[0], got, want)
			}
			alike(t, "rolled", d, at(r.seed, len(want)-1))
		}
	}
}

// TestP16_1WalkRings: from each point on, of rings of one point up to MaxNodes, with no links, some, and many of them.
func TestP16_1WalkRings(t *testing.T) {
	for _, n := range []int{1, 2, 3, 5, 8, 31, api.MaxNodes - 1, api.MaxNodes} {
		l := even(n)
		for _, links := range []known{nil, {}, meshed(l, 1), meshed(l, 3), meshed(l, api.MaxLinks), meshed(l, 300)} {
			s := of(t, links, l...)
			for _, p := range l {
				for _, seed := range []uint64{0, 1, 77, math.MaxUint64} {
					d := dice.New(seed)
					s.ask(t, "rings", p, 20, d)
					alike(t, "rings", d, at(seed, 20))
				}
			}
		}
	}
}

// TestP16_1WalkManyLinks: each of many links may be rolled, wherever it stands.
func TestP16_1WalkManyLinks(t *testing.T) {
	l := even(api.MaxNodes)
	for _, n := range []int{255, 256, 1000, 5000} {
		s := of(t, meshed(l, n), l...)
		for _, seed := range seeds(10) {
			s.ask(t, "many links", l[1], 40, dice.New(seed))
		}
	}
}

// TestP16_1WalkSteps: steps count from 0 up to 1,000, and each is rolled once, wherever there is one place only, too.
func TestP16_1WalkSteps(t *testing.T) {
	for _, n := range counts() {
		made := min(max(n, 0), most)
		for _, l := range [][]uint32{{7}, {7, 8}, append(even(9), 7), append(even(api.MaxNodes-1), 7)} {
			for _, links := range []known{nil, meshed(l, 4)} {
				s := of(t, links, l...)
				for _, seed := range []uint64{0, 5, math.MaxUint64} {
					d := dice.New(seed)
					got := sample.Walk(s.ring, links, 7, n, d)
					if len(got) != made+1 || got[0] != 7 {
						t.Errorf("of %d points: Walk of %d steps: %d points, %v ..; want %d from 7 on", len(l), n, len(got), got[:min(1, len(got))], made+1)
					}
					alike(t, "steps", d, at(seed, made))
					whole := sample.Walk(s.ring, links, 7, most, dice.New(seed))
					if !slices.Equal(got, whole[:min(made+1, len(whole))]) {
						t.Errorf("of %d points: Walk of %d steps goes another way than one of 1,000", len(l), n)
					}
					s.ask(t, "steps", 7, n, dice.New(seed))
				}
			}
		}
	}
}

// TestP16_1WalkNoPoint: none, and nothing is rolled, whatever links it has.
func TestP16_1WalkNoPoint(t *testing.T) {
	links := known{9: {8, 9, 10, top}, 8: {9}, 0: {9}}
	dropped := of(t, links, 8, 9, 10)
	dropped.ring.Drop(9)
	dropped.points = []uint32{8, 10}
	for _, s := range []scene{
		dropped, of(t, links), of(t, links, 8), of(t, links, 10), of(t, links, 8, 10), of(t, links, 0, top), of(t, nil, even(api.MaxNodes)...),
		of(t, links, 9+1<<8, 9+1<<16, 9+half), {nil, nil, links}, {nil, nil, nil}, {&ring.Ring{}, nil, links},
	} {
		for _, n := range counts() {
			for _, seed := range seeds(3) {
				d := dice.New(seed)
				if got := sample.Walk(s.ring, s.links, 9, n, d); len(got) != 0 {
					t.Errorf("of %v: Walk(9, %d): %v; want none", s.points, n, got)
				}
				alike(t, "no point", d, dice.New(seed))
			}
			s.ask(t, "no point, nil dice", 9, n, nil)
		}
	}
}

// TestP16_1WalkDropped: a link whose point was dropped counts nothing, and counts again where that was added anew.
func TestP16_1WalkDropped(t *testing.T) {
	links := known{10: {30, 40, 20}, 20: {30, 10}, 40: {30, 30}}
	for _, seed := range seeds(30) {
		s := of(t, links, 10, 20, 30, 40)
		s.ask(t, "ahead of it", 10, 50, dice.New(seed))
		s.ring.Drop(30)
		s.points = []uint32{10, 20, 40}
		s.ask(t, "dropped", 10, 50, dice.New(seed))
		if got := sample.Walk(s.ring, links, 10, 50, dice.New(seed)); slices.Contains(got, 30) {
			t.Errorf("the seed %#x: %v goes by 30, which was dropped", seed, got)
		}
		s.ring.Add(30)
		s.points = []uint32{10, 20, 30, 40}
		s.ask(t, "added anew", 10, 50, dice.New(seed))
	}
}

// TestP16_1WalkNilDice: each roll is 0, which is Next: so it goes round.
func TestP16_1WalkNilDice(t *testing.T) {
	for _, n := range []int{1, 2, 3, 7, api.MaxNodes} {
		l := even(n)
		for _, links := range []known{nil, meshed(l, 1), meshed(l, api.MaxLinks)} {
			s := of(t, links, l...)
			for i, p := range s.points {
				walk := sample.Walk(s.ring, links, p, 2*n+1, nil)
				if len(walk) != 2*n+2 {
					t.Fatalf("of %d points: Walk by nil dice: %v", n, walk)
				}
				for j, q := range walk {
					if want := s.points[(i+j)%n]; q != want {
						t.Errorf("of %d points: Walk(%d) by nil dice: %d at the place %d; want %d", n, p, q, j, want)
					}
				}
				s.ask(t, "nil dice", p, 100, nil)
			}
		}
	}
}

// TestP16_1WalkInTurn: the same dice go on from one walk to the next, as they stand.
func TestP16_1WalkInTurn(t *testing.T) {
	l := even(20)
	s := of(t, meshed(l, 5), l...)
	for _, seed := range seeds(20) {
		d, made := dice.New(seed), 0
		for n := range 12 {
			s.ask(t, "in turn", s.points[n], n-1, d)
			s.ask(t, "in turn, no point", s.points[n]+1, n, d)
			made += max(n-1, 0)
			alike(t, "in turn", d, at(seed, made))
		}
	}
}

// TestP16_1WalkChance: where a link is named so often, it is gone to so often, and Next once.
func TestP16_1WalkChance(t *testing.T) {
	links := known{10: {30, 40, 15, 40, 10}, 20: {}, 30: {}, 40: {}}
	s := of(t, links, 10, 20, 30, 40)
	d, times, rounds := dice.New(5), map[uint32]int{}, 60_000
	for range rounds {
		times[sample.Walk(s.ring, links, 10, 1, d)[1]]++
	}
	for p, share := range map[uint32]int{10: 1, 20: 1, 30: 1, 40: 2} {
		if want := rounds / 5 * share; times[p] < want-want/20 || times[p] > want+want/20 {
			t.Errorf("of %d steps %d lead to %d; want about %d", rounds, times[p], p, want)
		}
	}
}

// TestP16_1Mean: 256 times the sum, by how many there are, without rest.
func TestP16_1Mean(t *testing.T) {
	for _, r := range []struct {
		what string
		l    []api.Load
		want uint64
	}{
		{"nil", nil, 0},
		{"none", []api.Load{}, 0},
		{"one of nothing", loads(0), 0},
		{"one of one", loads(1), 256},
		{"one", loads(77), 77 * 256},
		{"one of many", loads(10000), 2_560_000},
		{"one whose point counts nothing", []api.Load{{Point: top, Entries: 3}}, 768},
		{"several of nothing", loads(0, 0, 0, 0), 0},
		{"alike", loads(5, 5, 5), 1280},
		{"many alike", slices.Repeat(loads(9), 1000), 2304},
		{"even sum", loads(1, 2, 3), 512},
		{"even by a half", loads(1, 2), 384},
		{"even by a quarter", loads(0, 1, 0, 0), 64},
		{"even by a bit", append(slices.Repeat(loads(0), 255), loads(1)...), 1},
		{"just less than a bit", append(slices.Repeat(loads(0), 256), loads(1)...), 0},
		{"twice just less than a bit", append(slices.Repeat(loads(0), 255), loads(1, 1)...), 1},
		{"a third", loads(1, 0, 0), 85},
		{"two thirds", loads(0, 2, 0), 170},
		{"four thirds", loads(1, 1, 2), 341},
		{"a fifth", loads(0, 0, 0, 0, 1), 51},
		{"a seventh", loads(0, 0, 0, 1, 0, 0, 0), 36},
		{"six sevenths", loads(1, 1, 1, 0, 1, 1, 1), 219},
		{"cut off, of more", loads(1000, 1, 0), 85418},
		{"rising", loads(1, 2, 4, 8, 16, 32), 2688},
		{"falling", loads(32, 16, 8, 4, 2, 1), 2688},
		{"as many as nodes", slices.Repeat(loads(3, 4), 32), 896},
		{"points that are alike", []api.Load{{Point: 5, Entries: 3}, {Point: 5, Entries: 3}}, 768},
		{"one below 0", loads(-1), 0},
		{"one far below 0", loads(math.MinInt), 0},
		{"all below 0", loads(-1, -256, math.MinInt, math.MinInt32), 0},
		{"below 0 takes nothing away", loads(10, -10), 1280},
		{"far below 0 takes nothing away", loads(math.MinInt, 10, math.MinInt, 10), 1280},
		{"below 0 among others", loads(4, -1, 0, 4), 512},
		{"nothing counts among how many there are", loads(8, 0, 0, 0), 512},
		{"the most", loads(cap31), cap31 * 256},
		{"just less than the most", loads(cap31 - 1), (cap31 - 1) * 256},
		{"just above the most", loads(half), cap31 * 256},
		{"above the most by two", loads(half + 1), cap31 * 256},
		{"what 32 bits tell at most", loads(top), cap31 * 256},
		{"what goes round to 0", loads(1 << 32), cap31 * 256},
		{"what goes round to one", loads(1<<32 + 1), cap31 * 256},
		{"the greatest", loads(math.MaxInt), cap31 * 256},
		{"just less than the greatest", loads(math.MaxInt - 1), cap31 * 256},
		{"two of the most", loads(cap31, cap31), cap31 * 256},
		{"two of the greatest", loads(math.MaxInt, math.MaxInt), cap31 * 256},
		{"one of the most of two", loads(cap31, 0), cap31 * 128},
		{"the greatest and the least", loads(math.MaxInt, math.MinInt), cap31 * 128},
		{"each is cut off by itself", loads(half, cap31-1), cap31*256 - 128},
		{"a sum of just 2^32", loads(cap31, cap31, 2), 1 << 32 * 256 / 3},
		{"a sum above 2^32", loads(cap31, cap31, cap31, 1), (cap31*3 + 1) * 64},
		{"many of the most", slices.Repeat(loads(cap31), 5000), cap31 * 256},
		{"many of the greatest", slices.Repeat(loads(math.MaxInt), 4999), cap31 * 256},
		{"many of the most, and one of nothing", append(slices.Repeat(loads(cap31), 4999), api.Load{}), cap31*256 - 109951163},
	} {
		if got := sample.Mean(r.l); got != r.want {
			t.Errorf("%s: Mean: %d; want %d", r.what, got, r.want)
		}
		mean(t, r.what, r.l)
		l := slices.Clone(r.l)
		slices.Reverse(l)
		mean(t, r.what+", the other way round", l)
	}
}

// TestP16_1MeanMany: as many as there may be of anything, and more, of whatever number.
func TestP16_1MeanMany(t *testing.T) {
	for _, n := range []int{64, 255, 256, 257, 10_000, 65_536, 1 << 18} {
		for _, has := range []int{0, 1, 255, 256, 16_777_216, cap31 - 1, cap31, half, math.MaxInt, -1} {
			l := slices.Repeat([]api.Load{{Point: 7, Entries: has}}, n)
			want := uint64(min(max(has, 0), cap31)) * 256
			if got := mean(t, "many", l); got != want {
				t.Errorf("Mean of %d loads of %d: %d; want %d", n, has, got, want)
			}
			l[n/2].Entries = 1000
			mean(t, "many but one", l)
		}
	}
}

// TestEverywhere asks of strewn rings, links and loads, and holds what is told against a plain reference; all that the
// chapter names was come to.
func TestEverywhere(t *testing.T) {
	var sum met
	var none, below, above, cut, even int
	for seed := range uint64(3000) {
		next := roll(seed)
		s, d := strewn(t, next), dice.New(seed*0xd1342543de82ef95)
		for range 6 {
			at := s.points[next(len(s.points))]
			if next(5) == 0 {
				at += uint32(next(3))
			}
			if !s.ring.Has(at) {
				none++
			}
			m := s.ask(t, "strewn", at, next(40)-1, d)
			sum = met{sum.next + m.next, sum.named + m.named, sum.link + m.link, sum.itself + m.itself, sum.round + m.round, sum.strange + m.strange, sum.twice + m.twice}
		}
		l := make([]api.Load, next(70))
		total := 0
		for i := range l {
			l[i] = api.Load{Point: uint32(next(half)), Entries: entries(next)}
			total += min(max(l[i].Entries, 0), cap31)
			if l[i].Entries < 0 {
				below++
			}
			if l[i].Entries > cap31 {
				above++
			}
		}
		mean(t, "strewn", l)
		if len(l) > 0 && total*256%len(l) > 0 {
			cut++
		} else {
			even++
		}
	}
	if min(sum.next, sum.named, sum.link, sum.itself, sum.round, sum.strange, sum.twice, none, below, above, cut, even) < 300 {
		t.Errorf("not all that there is was come to: %+v, no point %d, below 0 %d, above the most %d, cut off %d, even %d", sum, none, below, above, cut, even)
	}
}

// TestWhatFollows: a walk stays on the ring, and goes to Next or by a link of where it is.
func TestWhatFollows(t *testing.T) {
	for seed := range uint64(300) {
		next := roll(seed)
		s := strewn(t, next)
		d := dice.New(seed)
		for _, p := range s.points {
			walk := sample.Walk(s.ring, s.links, p, 30, d)
			if len(walk) != 31 || walk[0] != p {
				t.Fatalf("of %v: Walk(%d): %v", s.points, p, walk)
			}
			for i, q := range walk[1:] {
				to, _ := s.ring.Next(walk[i])
				if !s.ring.Has(q) || q != to && !slices.Contains(s.links[walk[i]], q) {
					t.Fatalf("of %v, %v: Walk(%d): %v: from %d to %d", s.points, s.links, p, walk, walk[i], q)
				}
			}
		}
	}
}

// TestR1: whatever is handed in, it answers; dice that New did not make are such of the seed 0, and a ring that New did
// not make has no points, and takes some.
func TestR1(t *testing.T) {
	for _, n := range counts() {
		for _, p := range places() {
			if got := sample.Walk(nil, nil, p, n, nil); len(got) != 0 {
				t.Errorf("Walk(nil, nil, %d, %d, nil): %v; want none", p, n, got)
			}
		}
	}
	s := scene{&ring.Ring{}, []uint32{3, 500, half, top}, known{3: {top, 4}, top: {500, half, 500}}}
	for _, p := range s.points {
		if got := sample.Walk(s.ring, s.links, p, 5, &dice.Dice{}); p == 3 && len(got) != 0 {
			t.Errorf("Walk(%d) of a ring that New did not make: %v; want none", p, got)
		}
		s.ring.Add(p)
	}
	for _, p := range s.points {
		var d dice.Dice
		s.ask(t, "a ring and dice that New did not make", p, 9, &d)
		alike(t, "dice that New did not make", &d, at(0, 9))
	}
}

// TestR2: the same ring, links, and dice that stand alike tell the same, however they were made, and whatever was done
// with others in between.
func TestR2(t *testing.T) {
	l := even(30)
	links := meshed(l, 4)
	s, other := of(t, links, l...), of(t, known{9: {8, 7}}, 7, 8, 9)
	turned := known{}
	slices.Reverse(l)
	for _, p := range append(l, 1, 2, 3) {
		turned[p] = slices.Clone(links[p])
	}
	made := ring.New()
	for _, p := range append(l, l[3]+1, l[4]+1) {
		made.Add(p)
	}
	made.Drop(l[3] + 1)
	made.Drop(l[4] + 1)
	copied := *s.ring
	for _, seed := range seeds(20) {
		want := sample.Walk(s.ring, links, top, 60, dice.New(seed))
		for what, r := range map[string]*ring.Ring{"again": s.ring, "made otherwise": made, "a fork": s.ring.Fork(), "a plain copy": &copied} {
			sample.Walk(other.ring, other.links, 9, 10, dice.New(seed+1))
			sample.Mean(loads(1, 2))
			first := dice.New(seed)
			second := first.Fork()
			if got := sample.Walk(r, turned, top, 60, first); !slices.Equal(got, want) {
				t.Errorf("%s: %v; want %v", what, got, want)
			}
			alike(t, what+": dice that were handed in", first, at(seed, 60))
			alike(t, what+": their fork", second, dice.New(seed))
		}
	}
	for range 3 {
		mean(t, "again", loads(1, 2, 4))
		sample.Mean(loads(7))
	}
}

// TestR2Together: one ring, its links, and loads may be asked by many at the same time, each by dice of their own.
func TestR2Together(t *testing.T) {
	l := even(50)
	s, d, many := of(t, meshed(l, 5), l...), dice.New(3), slices.Repeat(loads(3, cap31, -5), 100)
	var jobs sync.WaitGroup
	for _, seed := range seeds(8) {
		fork := d.Fork()
		jobs.Go(func() {
			s.ask(t, "at the same time", top, 200, dice.New(seed))
			want, _ := plainWalk(s.points, s.links, top, 200, dice.New(3))
			if got := sample.Walk(s.ring, s.links, top, 200, fork); !slices.Equal(got, want) {
				t.Errorf("at the same time, by a fork: %v; want %v", got, want)
			}
			alike(t, "at the same time, a fork", fork, at(3, 200))
			if got := sample.Mean(many); got != plainMean(many) {
				t.Errorf("at the same time: Mean: %d; want %d", got, plainMean(many))
			}
		})
	}
	jobs.Wait()
	alike(t, "what was forked", d, dice.New(3))
}

// TestR3Out: who writes into what was told, and into the room behind its end, changes nothing else; what was told stays,
// whatever becomes of the ring and of the links.
func TestR3Out(t *testing.T) {
	for _, seed := range seeds(20) {
		for _, n := range []int{-1, 0, 1, 2, 7, 100, most} {
			l := even(20)
			links := meshed(l, 3)
			was := copied(links)
			s, fork := of(t, links, l...), scene{}
			fork = scene{s.ring.Fork(), s.points, was}
			d := dice.New(seed)
			first := sample.Walk(s.ring, links, top, n, d)
			second := sample.Walk(s.ring, links, top, n, dice.New(seed))
			third := sample.Walk(s.ring, links, top, n, d)
			want, after := slices.Clone(second), slices.Clone(third)
			spoil(first)
			if !slices.Equal(second, want) || !slices.Equal(third, after) {
				t.Errorf("another answer was spoilt: %v, %v; want %v, %v", second, third, want, after)
			}
			if got := copied(links); !maps.EqualFunc(got, was, slices.Equal) {
				t.Errorf("the links were spoilt: %v; want %v", got, was)
			}
			alike(t, "spoilt", d, at(seed, 2*max(n, 0)))
			s.ask(t, "spoilt", top, n, dice.New(seed))
			for _, p := range s.points {
				s.ring.Drop(p)
				s.ring.Add(p + 3)
				spoil(links[p])
			}
			clear(links)
			if !slices.Equal(second, want) {
				t.Errorf("told ahead of changes: %v; want %v", second, want)
			}
			fork.ask(t, "a fork, the ring changed", top, n, dice.New(seed))
		}
	}
}

// TestR3In: what is handed in is not kept: what becomes of the links and of the loads counts from then on.
func TestR3In(t *testing.T) {
	s := of(t, known{10: {30, 40}, 30: {10}}, 10, 20, 30, 40)
	for _, seed := range seeds(20) {
		s.ask(t, "as handed in", 10, 50, dice.New(seed))
		s.links[10][0], s.links[30][0] = 40, 30
		s.ask(t, "links changed", 10, 50, dice.New(seed))
		s.links[20] = []uint32{20, 40, 40}
		delete(s.links, 30)
		s.ask(t, "links of others", 10, 50, dice.New(seed))
		s.links[10][0], s.links[30] = 30, []uint32{10}
		delete(s.links, 20)
		s.ask(t, "links as they were", 10, 50, dice.New(seed))
	}
	l := loads(4, 5, 6)
	mean(t, "as handed in", l)
	l[1].Entries = -5
	if got := mean(t, "loads changed", l); got != 853 {
		t.Errorf("Mean of 4, -5, 6: %d; want 853", got)
	}
	// Lists of links may share their memory.
	shared := []uint32{40, 30, 20, 10}
	links := known{10: shared[:1], 20: shared[:2], 30: shared[1:], 40: shared}
	for _, seed := range seeds(20) {
		d := dice.New(seed)
		want, _ := plainWalk(s.points, links, 10, 100, d.Fork())
		if got := sample.Walk(s.ring, links, 10, 100, d); !slices.Equal(got, want) {
			t.Errorf("of lists that share their memory: %v; want %v", got, want)
		}
		if !slices.Equal(shared, []uint32{40, 30, 20, 10}) {
			t.Fatalf("lists that share their memory were written into: %v", shared)
		}
	}
}
