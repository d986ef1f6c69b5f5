package links_test

import (
	"math/bits"
	"slices"
	"sync"
	"testing"

	"petasos/api"
	"petasos/circle"
	"petasos/dice"
	"petasos/links"
	"petasos/ring"
)

// TestExample is the chapter's.
func TestExample(t *testing.T) {
	r := ring.New()
	r.Add(10)
	if got := links.Of(r, 10, api.MaxLinks, dice.New(1)); len(got) != 0 {
		t.Errorf("Of a ring of one point: %v; want none", got)
	}
}

// TestP12_1Far holds it against numbers that were worked out elsewhere.
func TestP12_1Far(t *testing.T) {
	for _, r := range []struct {
		what string
		seed uint64
		want []uint32
	}{
		{"0", 0, []uint32{58868, 33260, 209625834, 2, 14, 758, 138062127, 52265131}},
		{"1", 1, []uint32{3, 1849870603, 34931328, 53, 406, 2, 1, 315}},
		{"2", 2, []uint32{24130, 63076, 691, 67, 4017092716, 3905911, 2, 668185}},
		{"3", 3, []uint32{10633, 3, 6246151, 25530902, 100887410, 6271, 1351619, 293770218}},
		{"42", 42, []uint32{2552067, 451476, 318214, 1050554276, 4159406, 3306574014, 119, 494679026}},
		{"some number", 1234567, []uint32{37, 9927487, 9462, 49, 103708, 416954602, 4081, 1055339}},
		{"what 32 bits do not hold", 1 << 32, []uint32{22461757, 2862837, 64864, 1644230, 198616, 14497316, 71062, 207301}},
		{"the highest bit", 1 << 63, []uint32{238063634, 1, 1033727, 13, 24188592, 26054, 53, 50829}},
		{"the greatest", 1<<64 - 1, []uint32{1, 722, 31539, 36, 28, 2252199, 259792010, 2}},
		{"round to 0", 0x61c8864680b583eb, []uint32{1, 1656143, 5275, 1761, 298420931, 73, 8117115, 52505}},
		{"not yet round", 0x61c8864680b583ea, []uint32{191179808, 1001, 289198, 540581, 20, 510775061, 219, 1217}},
	} {
		d := dice.New(r.seed)
		for i, want := range r.want {
			if got := links.Far(d); got != want {
				t.Errorf("the seed %s: Far, the %dth: %d; want %d", r.what, i, got, want)
			}
			alike(t, "the seed "+r.what, d, at(r.seed, 2*(i+1)))
		}
	}
}

// TestP12_1FarEdges: each power, alone, and with what is the least and the most on top of it.
func TestP12_1FarEdges(t *testing.T) {
	for b := range 32 {
		power := uint32(1) << b
		for _, want := range []uint32{power, power + (power-1)&1, power + (power-1)/2, power + (power - 1)} {
			seed := rolls(want)
			d := dice.New(seed)
			if got := links.Far(d); got != want {
				t.Errorf("Far by the seed %#x: %d; want %d", seed, got, want)
			}
			alike(t, "rolled", d, at(seed, 2))
		}
	}
}

// TestP12_1FarEverywhere rolls rows by many dice, two steps each time, even where nothing may lie on top of the power.
func TestP12_1FarEverywhere(t *testing.T) {
	var lengths [33]int
	for _, seed := range seeds(200) {
		d, like := dice.New(seed), dice.New(seed)
		for i := range 100 {
			got, want := links.Far(d), plainFar(like)
			if uint64(got) != want {
				t.Fatalf("the seed %#x: Far, the %dth: %d; want %d", seed, i, got, want)
			}
			lengths[bits.Len32(got)]++
		}
		alike(t, "rolled", d, at(seed, 200))
	}
	for length, n := range lengths {
		if (n > 0) != (length > 0) {
			t.Errorf("Far told %d numbers of %d bits", n, length)
		}
	}
}

// TestP12_1FarNil: 1, however often.
func TestP12_1FarNil(t *testing.T) {
	for range 100 {
		if got := links.Far(nil); got != 1 {
			t.Errorf("Far(nil): %d; want 1", got)
		}
	}
}

// TestP12_1Of: one link, whose distance is known.
func TestP12_1Of(t *testing.T) {
	four, ends := []uint32{10, 20, 30, 40}, []uint32{0, 5, top}
	for _, r := range []struct {
		what   string
		points []uint32
		p, far uint32
		want   []uint32
	}{
		{"the nearest is Next", four, 10, 1, nil},
		{"Next itself", four, 10, 10, nil},
		{"just behind Next", four, 10, 11, []uint32{30}},
		{"a point", four, 10, 20, []uint32{30}},
		{"just behind a point", four, 10, 21, []uint32{40}},
		{"the last point", four, 10, 30, []uint32{40}},
		{"just behind the last point, p", four, 10, 31, nil},
		{"across, p", four, 10, half, nil},
		{"the greatest value, p", four, 10, top - 10, nil},
		{"round the end, p", four, 10, top - 9, nil},
		{"all but round, p", four, 10, top, nil},
		{"of another one, Next", four, 20, 10, nil},
		{"of another one, behind Next", four, 20, 11, []uint32{40}},
		{"of another one, round the end", four, 20, 21, []uint32{10}},
		{"of another one, round the end, value 0", four, 20, top - 19, []uint32{10}},
		{"of another one, round the end, itself", four, 20, top - 9, []uint32{10}},
		{"of another one, round the end, p", four, 20, top - 8, nil},
		{"of the last but one, Next", four, 30, 10, nil},
		{"of the last but one, behind Next", four, 30, 11, []uint32{10}},
		{"of the last but one, a point round the end", four, 30, top - 19, []uint32{10}},
		{"of the last but one, behind a point round the end", four, 30, top - 18, []uint32{20}},
		{"of the last but one, another point round the end", four, 30, top - 9, []uint32{20}},
		{"of the last but one, p", four, 30, top - 8, nil},
		{"of the last point, Next", four, 40, 1, nil},
		{"of the last point, Next, far", four, 40, half + half/2, nil},
		{"of the last point, Next, round the end", four, 40, top - 29, nil},
		{"of the last point, behind Next", four, 40, top - 28, []uint32{20}},
		{"of the last point, a point", four, 40, top - 9, []uint32{30}},
		{"of the last point, p", four, 40, top - 8, nil},
		{"of the last point, p, all but round", four, 40, top, nil},
		{"the greatest point, Next", ends, top, 1, nil},
		{"the greatest point, behind Next", ends, top, 2, []uint32{5}},
		{"the greatest point, a point", ends, top, 6, []uint32{5}},
		{"the greatest point, p", ends, top, 7, nil},
		{"the greatest point, all but round", ends, top, top, nil},
		{"point 0, Next", ends, 0, 5, nil},
		{"point 0, behind Next", ends, 0, 6, []uint32{top}},
		{"point 0, the greatest one", ends, 0, top, []uint32{top}},
		{"ahead of the greatest one, Next", ends, 5, top - 5, nil},
		{"point 0, told round the end", ends, 5, top - 4, []uint32{0}},
		{"behind point 0, p", ends, 5, top - 3, nil},
		{"a power of two that is a point", []uint32{0, 1, half, half + 1}, 0, half, []uint32{half}},
		{"just behind it", []uint32{0, 1, half, half + 1}, 0, half + 1, []uint32{half + 1}},
		{"just ahead of it", []uint32{0, 1, half, half + 1}, 0, half - 1, []uint32{half}},
		{"two points, Next", []uint32{3, 9}, 3, 6, nil},
		{"two points, p", []uint32{3, 9}, 3, 7, nil},
		{"two points, of the other one", []uint32{3, 9}, 9, 1, nil},
		{"two points, of the other one, p", []uint32{3, 9}, 9, top - 4, nil},
		{"one point", []uint32{3}, 3, 1, nil},
		{"one point, all but round", []uint32{3}, 3, top, nil},
		{"what is no point, between two", four, 15, 6, nil},
		{"what is no point, just ahead of one", four, 9, 12, nil},
		{"what is no point, just behind one", four, 11, 10, nil},
		{"what is no point, the first value", four, 0, 11, nil},
		{"what is no point, the last value", four, top, 12, nil},
	} {
		s, seed := of(t, r.points...), rolls(r.far)
		if got := links.Of(s.ring, r.p, 1, dice.New(seed)); !slices.Equal(got, r.want) {
			t.Errorf("%s: of %v: Of(%d, 1), %d off: %v; want %v", r.what, r.points, r.p, r.far, got, r.want)
		}
		s.ask(t, r.what, r.p, 1, dice.New(seed))
	}
}

// TestP12_1OfRolled holds links against such as were worked out elsewhere: they are told as steps from p, which are the
// same wherever p stands, and wherever among them the greatest number lies.
func TestP12_1OfRolled(t *testing.T) {
	steps := []uint32{0, 4, 100, 1e3, 1e4, 1e5, 1e6, 1e7, 1e8, 1e9, 3e9}
	for _, r := range []struct {
		what string
		seed uint64
		n    int
		want []uint32
	}{
		{"none", 0x16, 0, nil},
		{"none, below 0", 0x16, -1, nil},
		{"none, far below 0", 0x16, -1 << 63, nil},
		{"one", 0x16, 1, []uint32{1e4}},
		{"two", 0x16, 2, []uint32{1e4, 1e6}},
		{"three", 0x16, 3, []uint32{1e4, 1e6, 1e7}},
		{"four", 0x16, 4, []uint32{1e4, 1e6, 1e7, 1e9}},
		{"five, of which the last one comes first", 0x16, 5, []uint32{100, 1e4, 1e6, 1e7, 1e9}},
		{"MaxLinks", 0x16, 6, []uint32{100, 1e3, 1e4, 1e6, 1e7, 1e9}},
		{"one more than MaxLinks", 0x16, 7, []uint32{100, 1e3, 1e4, 1e6, 1e7, 1e9}},
		{"far more than MaxLinks", 0x16, 1<<63 - 1, []uint32{100, 1e3, 1e4, 1e6, 1e7, 1e9}},
		{"one twice, one behind the other, and Next", 0, 6, []uint32{100, 1e3, 1e5, 1e9}},
		{"Next twice", 1, 6, []uint32{100, 1e3, 1e8, 3e9}},
		{"p among them", 2, 6, []uint32{100, 1e3, 1e5, 1e7}},
		{"one twice, another one between", 4, 6, []uint32{100, 1e3, 1e4, 1e8, 3e9}},
		{"one three times, two others between", 5, 6, []uint32{100, 1e3, 1e9}},
		{"Next at first and at last", 6, 6, []uint32{100, 1e3, 1e7, 1e9}},
		{"rising rolls, two twice", 0xc, 6, []uint32{100, 1e5, 1e6, 1e7}},
		{"one five times", 0xf, 6, []uint32{100, 1e6}},
		{"MaxLinks others", 0x2f, 6, []uint32{100, 1e3, 1e5, 1e7, 1e8, 1e9}},
		{"rolls up and down", 0x24, 6, []uint32{1e3, 1e4, 1e5, 1e6, 1e9, 3e9}},
		{"two twice, in turn", 0x15, 6, []uint32{100, 1e3, 1e9, 3e9}},
		{"p at last", 0x2a, 6, []uint32{1e6, 1e7, 3e9}},
		{"Next alone", 1, 1, nil},
		{"Next alone, just behind p", 0xffffffffffffffff, 1, nil},
	} {
		for _, p := range append(places(), top-50, top-5e3, top-5e6, top-5e8, half+5, 1e9) {
			var points, want []uint32
			for _, x := range steps {
				points = append(points, p+x)
			}
			for _, x := range r.want {
				want = append(want, p+x)
			}
			s := of(t, points...)
			if got := links.Of(s.ring, p, r.n, dice.New(r.seed)); !slices.Equal(got, want) {
				t.Errorf("%s: of %v: Of(%d, %d): %v; want %v", r.what, s.points, p, r.n, got, want)
			}
			s.ask(t, r.what, p, r.n, dice.New(r.seed))
		}
	}
}

// TestP12_1OfCounts: n counts up to MaxLinks from 0; each link is rolled by two steps, whatever it comes to.
func TestP12_1OfCounts(t *testing.T) {
	for _, n := range counts() {
		made := 2 * min(max(n, 0), api.MaxLinks)
		for _, l := range [][]uint32{{7}, {7, 8}, {7, half}, {7, top, 0}, spread(7, 12), spread(7, api.MaxNodes)} {
			s := of(t, l...)
			for _, seed := range seeds(20) {
				d := dice.New(seed)
				s.ask(t, "a point", 7, n, d)
				alike(t, "a point", d, at(seed, made))
				whole, capped := links.Of(s.ring, 7, api.MaxLinks, dice.New(seed)), links.Of(s.ring, 7, n, dice.New(seed))
				if n >= api.MaxLinks && !slices.Equal(whole, capped) || n < 1 && len(capped) > 0 {
					t.Errorf("of %v: Of(7, %d): %v; of MaxLinks: %v", s.points, n, capped, whole)
				}
			}
		}
	}
}

// TestP12_1OfNoPoint: none, and nothing is rolled.
func TestP12_1OfNoPoint(t *testing.T) {
	dropped := of(t, spread(9, 20)...)
	dropped.ring.Drop(9)
	dropped.points = slices.DeleteFunc(dropped.points, func(p uint32) bool { return p == 9 })
	for _, s := range []scene{
		dropped, of(t), of(t, 8), of(t, 10), of(t, 8, 10), of(t, 0, top), of(t, even(api.MaxNodes)...), {nil, nil}, {&ring.Ring{}, nil},
		of(t, 9+1<<16, 9+half),
	} {
		for _, n := range counts() {
			for _, seed := range seeds(5) {
				d := dice.New(seed)
				if got := links.Of(s.ring, 9, n, d); len(got) != 0 {
					t.Errorf("of %v: Of(9, %d): %v; want none", s.points, n, got)
				}
				alike(t, "no point", d, dice.New(seed))
				s.ask(t, "no point", 9, n, d)
			}
			s.ask(t, "no point, nil dice", 9, n, nil)
		}
	}
}

// TestP12_1OfFew: of one point and of two there is none that is neither p nor its Next; of three there is one.
func TestP12_1OfFew(t *testing.T) {
	for _, p := range places() {
		for _, off := range []uint32{1, 2, 1000, half - 1, half, half + 1, top - 1, top} {
			one, two := of(t, p), of(t, p, p+off)
			for _, seed := range seeds(20) {
				one.ask(t, "one point", p, api.MaxLinks, dice.New(seed))
				for _, q := range two.points {
					if got := links.Of(two.ring, q, api.MaxLinks, dice.New(seed)); len(got) != 0 {
						t.Errorf("of %v: Of(%d): %v; want none", two.points, q, got)
					}
					two.ask(t, "two points", q, api.MaxLinks, dice.New(seed))
				}
				if got := links.Of(one.ring, p, api.MaxLinks, dice.New(seed)); len(got) != 0 {
					t.Errorf("of %v: Of(%d): %v; want none", one.points, p, got)
				}
			}
			last := p - 1
			three := of(t, p, p+off/2, last)
			if got := links.Of(three.ring, p, 1, dice.New(rolls(top))); len(three.points) == 3 && !slices.Equal(got, []uint32{last}) {
				t.Errorf("of %v: Of(%d), all but round: %v; want %d", three.points, p, got, last)
			}
			for _, seed := range seeds(20) {
				three.ask(t, "three points", p, api.MaxLinks, dice.New(seed))
			}
		}
	}
}

// TestP12_1OfItself: the owner of a value that is a point is that point; of the one behind it, the next one. So points
// are laid just where the rolls come to, just ahead, and just behind.
func TestP12_1OfItself(t *testing.T) {
	for _, seed := range seeds(100) {
		for _, p := range places() {
			d := dice.New(seed)
			var just, ahead, behind []uint32
			for range api.MaxLinks {
				far := links.Far(d)
				just, ahead, behind = append(just, p+far), append(ahead, p+far-1), append(behind, p+far+1)
			}
			for _, l := range [][]uint32{just, ahead, behind, slices.Concat(just, ahead), slices.Concat(just, behind), slices.Concat(ahead, behind)} {
				for n := range api.MaxLinks + 1 {
					of(t, append(l, p)...).ask(t, "where the rolls come to", p, n, dice.New(seed))
				}
			}
		}
	}
}

// TestP12_1OfNilDice: each Far is 1, which Next owns, or p itself.
func TestP12_1OfNilDice(t *testing.T) {
	for _, l := range [][]uint32{{7}, {7, 8}, {7, 8, 9}, {6, 7, 9}, {0, 7, top}, spread(7, 20), even(api.MaxNodes)} {
		s := of(t, l...)
		for _, p := range s.points {
			for _, n := range counts() {
				if got := links.Of(s.ring, p, n, nil); len(got) != 0 {
					t.Errorf("of %v: Of(%d, %d) by nil dice: %v; want none", s.points, p, n, got)
				}
				s.ask(t, "nil dice", p, n, nil)
			}
		}
	}
}

// TestP12_1OfInTurn: the same dice go on from one point to the next, as they stand.
func TestP12_1OfInTurn(t *testing.T) {
	for _, seed := range seeds(10) {
		for _, l := range [][]uint32{even(3), spread(top-9, 30), even(api.MaxNodes)} {
			s, d := of(t, l...), dice.New(seed)
			for range 3 {
				for _, p := range s.points {
					s.ask(t, "in turn", p, 4, d)
					s.ask(t, "in turn, no point", p+1<<9, 4, d)
				}
			}
			alike(t, "in turn", d, at(seed, 3*len(l)*4*2))
		}
	}
}

// TestP12_Everywhere asks of strewn rings by many dice, and holds that against a plain reference; all that the chapter
// names was come to.
func TestP12_Everywhere(t *testing.T) {
	var sum met
	seam := 0
	for _, seed := range seeds(400) {
		next := dice.New(seed ^ 0x5555)
		p := places()[next.Roll(len(places()))] + uint32(next.Roll(50))
		var l []uint32
		for range 1 + next.Roll(api.MaxNodes-1) {
			l = append(l, p+uint32(next.Step()>>32>>next.Roll(32)))
		}
		s, d := of(t, append(l, p)...), dice.New(seed)
		for range 40 {
			at := p
			if next.Roll(3) == 0 {
				at = s.points[next.Roll(len(s.points))]
			}
			m := s.ask(t, "strewn", at, next.Roll(9)-1, d)
			sum = met{sum.itself + m.itself, sum.next + m.next, sum.twice + m.twice, sum.above + m.above, sum.below + m.below}
			if m.above > 0 && m.below > 0 {
				seam++
			}
		}
	}
	if min(sum.itself, sum.next, sum.twice, sum.above, sum.below, seam) < 1000 {
		t.Errorf("not all that there is was come to: %+v, round the end %d", sum, seam)
	}
}

// TestWhatFollows: links are points, and none that the node knows without; they rise by steps, and are MaxLinks at most.
func TestWhatFollows(t *testing.T) {
	for _, l := range [][]uint32{even(1), even(2), even(3), even(4), even(9), spread(0, 40), spread(half, 40), even(api.MaxNodes)} {
		s := of(t, l...)
		for _, seed := range seeds(50) {
			d := dice.New(seed)
			for _, p := range s.points {
				next, _ := s.ring.Next(p)
				got := links.Of(s.ring, p, api.MaxLinks, d)
				if len(got) > api.MaxLinks {
					t.Fatalf("of %v: Of(%d): %v: more than MaxLinks", s.points, p, got)
				}
				for i, q := range got {
					if !s.ring.Has(q) || q == p || q == next || i > 0 && circle.Far(p, got[i-1]) >= circle.Far(p, q) {
						t.Fatalf("of %v: Of(%d): %v", s.points, p, got)
					}
				}
			}
		}
	}
}

// TestR1: whatever is handed in, it answers; dice that New did not make are such of the seed 0, and a ring that New did
// not make has no points, and takes some.
func TestR1(t *testing.T) {
	for _, n := range counts() {
		for _, p := range places() {
			if got := links.Of(nil, p, n, nil); len(got) != 0 {
				t.Errorf("Of(nil, %d, %d, nil): %v; want none", p, n, got)
			}
		}
	}
	var d dice.Dice
	if got := links.Far(&d); got != 58868 {
		t.Errorf("Far of dice that New did not make: %d; want 58868", got)
	}
	alike(t, "dice that New did not make", &d, at(0, 2))
	s := scene{&ring.Ring{}, []uint32{3, 500, half, top}}
	for _, p := range s.points {
		s.ring.Add(p)
	}
	for _, p := range s.points {
		s.ask(t, "a ring and dice that New did not make", p, api.MaxLinks, &dice.Dice{})
	}
}

// TestR2: the same ring and dice that stand alike tell the same, however the ring was made, and whatever was done
// with others in between.
func TestR2(t *testing.T) {
	for _, seed := range seeds(20) {
		p := uint32(top - 40)
		l := spread(p, 30)
		s, other := of(t, l...), of(t, even(9)...)
		want := links.Of(s.ring, p, api.MaxLinks, dice.New(seed))
		slices.Reverse(l)
		made := ring.New()
		for _, p := range append(l, l[3]+1, l[4]+1) {
			made.Add(p)
		}
		made.Drop(l[3] + 1)
		made.Drop(l[4] + 1)
		copied := *s.ring
		for what, r := range map[string]*ring.Ring{"again": s.ring, "made otherwise": made, "a fork": s.ring.Fork(), "a plain copy": &copied} {
			links.Of(other.ring, other.points[2], api.MaxLinks, dice.New(seed+1))
			links.Far(dice.New(seed))
			first := dice.New(seed)
			second := first.Fork()
			if got := links.Of(r, p, api.MaxLinks, first); !slices.Equal(got, want) {
				t.Errorf("%s: %v; want %v", what, got, want)
			}
			alike(t, what+": dice that were handed in", first, at(seed, 2*api.MaxLinks))
			alike(t, what+": their fork", second, dice.New(seed))
		}
	}
}

// TestR2Together: one ring may be asked by many at the same time, each by dice of their own.
func TestR2Together(t *testing.T) {
	s, d := of(t, spread(9, 50)...), dice.New(3)
	var jobs sync.WaitGroup
	for _, seed := range seeds(8) {
		fork := d.Fork()
		jobs.Go(func() {
			s.ask(t, "at the same time", 9, api.MaxLinks, dice.New(seed))
			s.ask(t, "at the same time, by a fork", 9, api.MaxLinks, fork)
			links.Far(fork)
			alike(t, "at the same time, a fork", fork, at(3, 14))
		})
	}
	jobs.Wait()
	alike(t, "what was forked", d, dice.New(3))
}

// TestR3: who writes into what was told, and into the room behind its end, changes nothing else; what was told stays,
// whatever becomes of the ring.
func TestR3(t *testing.T) {
	told := 0
	for _, seed := range seeds(40) {
		for n := range api.MaxLinks + 1 {
			s := of(t, spread(top-70, 40)...)
			p, fork := uint32(top-70), s.ring.Fork()
			d := dice.New(seed)
			first := links.Of(s.ring, p, n, d)
			second := links.Of(s.ring, p, n, dice.New(seed))
			other := links.Of(s.ring, p, n, d)
			want, after := slices.Clone(second), slices.Clone(other)
			told += len(want)
			spoil(first)
			if !slices.Equal(second, want) || !slices.Equal(other, after) {
				t.Errorf("another answer was spoilt: %v, %v; want %v, %v", second, other, want, after)
			}
			s.ask(t, "spoilt", p, n, dice.New(seed))
			if got := fork.Points(); !slices.Equal(got, s.points) {
				t.Errorf("spoilt, a fork of the ring: %v; want %v", got, s.points)
			}
			alike(t, "spoilt", d, at(seed, 4*n))
			for _, q := range s.points {
				s.ring.Drop(q)
				s.ring.Add(q + 3)
			}
			if !slices.Equal(second, want) {
				t.Errorf("told ahead of changes: %v; want %v", second, want)
			}
			scene{fork, s.points}.ask(t, "a fork, the ring changed", p, n, dice.New(seed))
		}
	}
	if told < 300 {
		t.Errorf("only %d links were told", told)
	}
}
