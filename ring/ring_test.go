package ring_test

import (
	"math"
	"slices"
	"sync"
	"testing"

	"petasos/api"
	"petasos/circle"
	"petasos/ring"
)

func span(from, to uint32) api.Span { return api.Span{From: from, To: to} }

// TestExample is the chapter's.
func TestExample(t *testing.T) {
	r := ring.New()
	if r.Add(10) != api.OK || r.Add(20) != api.OK {
		t.Error("Add: not OK")
	}
	if p, is := r.Owner(15); p != 20 || !is {
		t.Errorf("Owner(15): %d, %v; want 20", p, is)
	}
	if p, is := r.Owner(25); p != 10 || !is {
		t.Errorf("Owner(25): %d, %v; want 10", p, is)
	}
}

// TestP11_1New: a ring of no points, and each new one is another one.
func TestP11_1New(t *testing.T) {
	p := newPair()
	if p.ring == nil {
		t.Fatal("New: nil")
	}
	p.check(t, "new")
	p.add(t, 5)
	newPair().check(t, "another new one")
	p.check(t, "the first one, added to")
}

// TestP11_1Add: each of these once is OK, and then there.
func TestP11_1Add(t *testing.T) {
	p := newPair()
	for _, v := range []uint32{half, 0, top, 7, top - 1, 1, 6, half - 1, 8, half + 1} {
		if err := p.ring.Add(v); err != api.OK || p.like.add(v) != api.OK {
			t.Errorf("Add(%d): error %d; want OK", v, err)
		}
		p.check(t, "added")
		for _, there := range p.like.list {
			if err := p.ring.Add(there); err != api.ErrThere {
				t.Errorf("Add(%d), which is there: error %d; want ErrThere", there, err)
			}
		}
		p.check(t, "added what is there")
	}
}

// TestP11_1AddOrders: in whatever order points are added the same is there.
func TestP11_1AddOrders(t *testing.T) {
	for _, l := range orders([]uint32{0, 1, 9, half, top - 1, top}) {
		filled(t, l...).check(t, "added in some order")
	}
	for seed := range uint64(20) {
		filled(t, mixed(many(api.MaxNodes), strewn(seed))...).check(t, "MaxNodes added in some order")
	}
}

// TestP11_1AddFull: there is room for MaxNodes; what is there already is ErrThere, even so; and what was dropped makes
// room for one.
func TestP11_1AddFull(t *testing.T) {
	l := many(api.MaxNodes)
	p := filled(t, mixed(l[1:], strewn(1))...)
	p.check(t, "one less than MaxNodes")
	if err := p.ring.Add(l[0]); err != api.OK || p.like.add(l[0]) != api.OK {
		t.Errorf("Add of the last one for which there is room: error %d; want OK", err)
	}
	p.check(t, "MaxNodes")
	for range 2 {
		for _, v := range []uint32{1, l[5] - 1, l[5] + 1, half + 3, top - 1} {
			if err := p.ring.Add(v); err != api.ErrFull {
				t.Errorf("Add(%d) to a full one: error %d; want ErrFull", v, err)
			}
		}
		for _, v := range l {
			if err := p.ring.Add(v); err != api.ErrThere {
				t.Errorf("Add(%d), which is there, to a full one: error %d; want ErrThere", v, err)
			}
		}
	}
	p.check(t, "full, and refused")
	for _, v := range l {
		p.drop(t, v)
		other := v + 1000
		if err := p.ring.Add(other); err != api.OK || p.like.add(other) != api.OK {
			t.Fatalf("Add(%d) to one that was full: error %d; want OK", other, err)
		}
		if err := p.ring.Add(v); err != api.ErrFull {
			t.Errorf("Add(%d) to one that is full again: error %d; want ErrFull", v, err)
		}
		p.drop(t, other)
		p.add(t, v)
	}
	p.check(t, "full again")
}

// TestP11_1Drop: of what is a point OK, once; of what is none ErrNone, and nothing changes.
func TestP11_1Drop(t *testing.T) {
	for _, l := range orders([]uint32{0, 1, half, top}) {
		p := filled(t, 0, 1, half, top)
		for _, v := range l {
			for _, none := range []uint32{2, half - 1, half + 1, top - 1} {
				if err := p.ring.Drop(none); err != api.ErrNone {
					t.Errorf("Drop(%d), which is no point: error %d; want ErrNone", none, err)
				}
			}
			p.check(t, "dropped what is none")
			if err := p.ring.Drop(v); err != api.OK || p.like.drop(v) != api.OK {
				t.Errorf("Drop(%d): error %d; want OK", v, err)
			}
			p.check(t, "dropped")
			if err := p.ring.Drop(v); err != api.ErrNone {
				t.Errorf("Drop(%d), which was dropped: error %d; want ErrNone", v, err)
			}
			p.check(t, "dropped twice")
		}
		for _, v := range append(l, edges()...) {
			if err := p.ring.Drop(v); err != api.ErrNone {
				t.Errorf("Drop(%d) of no points: error %d; want ErrNone", v, err)
			}
		}
		for _, v := range l {
			p.add(t, v)
			p.check(t, "added where all were dropped")
		}
	}
}

func TestP11_1Has(t *testing.T) {
	for _, r := range []struct {
		points []uint32
		v      uint32
		want   bool
	}{
		{nil, 0, false}, {nil, top, false}, {[]uint32{0}, 0, true}, {[]uint32{0}, top, false}, {[]uint32{0}, 1, false},
		{[]uint32{top}, top, true}, {[]uint32{top}, 0, false}, {[]uint32{top}, half - 1, false}, {[]uint32{10, 20, 30}, 10, true},
		{[]uint32{10, 20, 30}, 20, true}, {[]uint32{10, 20, 30}, 30, true}, {[]uint32{10, 20, 30}, 9, false}, {[]uint32{10, 20, 30}, 11, false},
		{[]uint32{10, 20, 30}, 15, false}, {[]uint32{10, 20, 30}, 31, false}, {[]uint32{5}, 5 + 1<<16, false}, {[]uint32{5}, half + 5, false},
	} {
		if got := filled(t, r.points...).ring.Has(r.v); got != r.want {
			t.Errorf("of %v: Has(%d): %v; want %v", r.points, r.v, got, r.want)
		}
	}
}

func TestP11_1Owner(t *testing.T) {
	for _, r := range []struct {
		what    string
		points  []uint32
		v, want uint32
		is      bool
	}{
		{"no points", nil, 7, 0, false},
		{"no points, the first value", nil, 0, 0, false},
		{"no points, the last value", nil, top, 0, false},
		{"a point", []uint32{10, 20, 30}, 20, 20, true},
		{"the first point", []uint32{10, 20, 30}, 10, 10, true},
		{"the last point", []uint32{10, 20, 30}, 30, 30, true},
		{"behind a point", []uint32{10, 20, 30}, 11, 20, true},
		{"between two", []uint32{10, 20, 30}, 15, 20, true},
		{"nearer to the one ahead", []uint32{10, 20, 30}, 21, 30, true},
		{"behind the last point", []uint32{10, 20, 30}, 31, 10, true},
		{"far behind the last point", []uint32{10, 20, 30}, half + 20, 10, true},
		{"the last value", []uint32{10, 20, 30}, top, 10, true},
		{"the first value", []uint32{10, 20, 30}, 0, 10, true},
		{"ahead of the first point", []uint32{10, 20, 30}, 9, 10, true},
		{"one point, itself", []uint32{10}, 10, 10, true},
		{"one point, ahead of it", []uint32{10}, 9, 10, true},
		{"one point, behind it", []uint32{10}, 11, 10, true},
		{"one point, across from it", []uint32{10}, half + 10, 10, true},
		{"point 0, itself", []uint32{0}, 0, 0, true},
		{"point 0, the last value", []uint32{0}, top, 0, true},
		{"point 0, behind it", []uint32{0}, 1, 0, true},
		{"the greatest point, itself", []uint32{top}, top, top, true},
		{"the greatest point, value 0", []uint32{top}, 0, top, true},
		{"side by side, the last value", []uint32{0, top}, top, top, true},
		{"side by side, value 0", []uint32{0, top}, 0, 0, true},
		{"side by side, behind them", []uint32{0, top}, 1, top, true},
		{"side by side, ahead of them", []uint32{0, top}, top - 1, top, true},
		{"far from each other, the far one is next", []uint32{0, half + 5}, 1, half + 5, true},
		{"far from each other, behind the far one", []uint32{0, half + 5}, half + 6, 0, true},
	} {
		for _, l := range orders(r.points) {
			if got, is := filled(t, l...).ring.Owner(r.v); got != r.want || is != r.is {
				t.Errorf("%s: of %v: Owner(%d): %d, %v; want %d, %v", r.what, l, r.v, got, is, r.want, r.is)
			}
		}
	}
}

func TestP11_1Next(t *testing.T) {
	for _, r := range []struct {
		what    string
		points  []uint32
		p, want uint32
		is      bool
	}{
		{"no points", nil, 7, 0, false},
		{"no points, the first value", nil, 0, 0, false},
		{"no points, the last value", nil, top, 0, false},
		{"a point", []uint32{10, 20, 30}, 10, 20, true},
		{"another point", []uint32{10, 20, 30}, 20, 30, true},
		{"the last point", []uint32{10, 20, 30}, 30, 10, true},
		{"no point, between two", []uint32{10, 20, 30}, 15, 20, true},
		{"no point, ahead of one", []uint32{10, 20, 30}, 19, 20, true},
		{"no point, behind one", []uint32{10, 20, 30}, 21, 30, true},
		{"no point, behind the last one", []uint32{10, 20, 30}, 31, 10, true},
		{"no point, ahead of the first one", []uint32{10, 20, 30}, 9, 10, true},
		{"no point, the last value", []uint32{10, 20, 30}, top, 10, true},
		{"no point, the first value", []uint32{10, 20, 30}, 0, 10, true},
		{"the only point", []uint32{10}, 10, 10, true},
		{"the only point, of what is none", []uint32{10}, 11, 10, true},
		{"the only point, of what is just ahead of it", []uint32{10}, 9, 10, true},
		{"the only point, 0", []uint32{0}, 0, 0, true},
		{"the only point, 0, of the last value", []uint32{0}, top, 0, true},
		{"the only point, the greatest", []uint32{top}, top, top, true},
		{"the only point, the greatest, of value 0", []uint32{top}, 0, top, true},
		{"side by side, the greatest", []uint32{0, top}, top, 0, true},
		{"side by side, 0", []uint32{0, top}, 0, top, true},
		{"side by side, behind them", []uint32{0, top}, 1, top, true},
		{"side by side, ahead of them", []uint32{0, top}, top - 1, top, true},
		{"far from each other", []uint32{0, half + 5}, 0, half + 5, true},
		{"far from each other, the other way", []uint32{0, half + 5}, half + 5, 0, true},
	} {
		for _, l := range orders(r.points) {
			if got, is := filled(t, l...).ring.Next(r.p); got != r.want || is != r.is {
				t.Errorf("%s: of %v: Next(%d): %d, %v; want %d, %v", r.what, l, r.p, got, is, r.want, r.is)
			}
		}
	}
}

func TestP11_1Span(t *testing.T) {
	for _, r := range []struct {
		what   string
		points []uint32
		p      uint32
		want   api.Span
		is     bool
	}{
		{"no points", nil, 7, span(0, 0), false},
		{"no points, value 0", nil, 0, span(0, 0), false},
		{"a point", []uint32{10, 20, 30}, 20, span(10, 20), true},
		{"the last point", []uint32{10, 20, 30}, 30, span(20, 30), true},
		{"the first point", []uint32{10, 20, 30}, 10, span(30, 10), true},
		{"no point, between two", []uint32{10, 20, 30}, 15, span(0, 0), false},
		{"no point, just ahead of one", []uint32{10, 20, 30}, 19, span(0, 0), false},
		{"no point, just behind one", []uint32{10, 20, 30}, 21, span(0, 0), false},
		{"no point, behind the last one", []uint32{10, 20, 30}, 31, span(0, 0), false},
		{"no point, the first value", []uint32{10, 20, 30}, 0, span(0, 0), false},
		{"no point, the last value", []uint32{10, 20, 30}, top, span(0, 0), false},
		{"the only point", []uint32{10}, 10, span(10, 10), true},
		{"the only point, of what is none", []uint32{10}, 11, span(0, 0), false},
		{"the only point, 0", []uint32{0}, 0, span(0, 0), true},
		{"the only point, the greatest", []uint32{top}, top, span(top, top), true},
		{"side by side, 0", []uint32{0, top}, 0, span(top, 0), true},
		{"side by side, the greatest", []uint32{0, top}, top, span(0, top), true},
		{"side by side, elsewhere", []uint32{6, 7}, 7, span(6, 7), true},
		{"side by side, elsewhere, the first", []uint32{6, 7}, 6, span(7, 6), true},
		{"far from each other", []uint32{0, half + 5, half + 6}, half + 5, span(0, half+5), true},
		{"far from each other, round the end", []uint32{0, half - 5}, 0, span(half-5, 0), true},
	} {
		for _, l := range orders(r.points) {
			if got, is := filled(t, l...).ring.Span(r.p); got != r.want || is != r.is {
				t.Errorf("%s: of %v: Span(%d): %v, %v; want %v, %v", r.what, l, r.p, got, is, r.want, r.is)
			}
		}
	}
}

func TestP11_1Heirs(t *testing.T) {
	four := []uint32{10, 20, 30, 40}
	for _, r := range []struct {
		what   string
		points []uint32
		p      uint32
		n      int
		want   []uint32
	}{
		{"no points", nil, 7, 3, nil},
		{"none", four, 10, 0, nil},
		{"below 1", four, 10, -1, nil},
		{"far below 1", four, 10, math.MinInt, nil},
		{"one", four, 10, 1, []uint32{20}},
		{"two", four, 10, 2, []uint32{20, 30}},
		{"as many as there are", four, 10, 3, []uint32{20, 30, 40}},
		{"one more than there are, but p itself", four, 10, 4, []uint32{20, 30, 40}},
		{"more than there are", four, 10, 5, []uint32{20, 30, 40}},
		{"far more than there are", four, 10, math.MaxInt, []uint32{20, 30, 40}},
		{"round the end", four, 30, 2, []uint32{40, 10}},
		{"round the end, all", four, 30, 9, []uint32{40, 10, 20}},
		{"of the last point", four, 40, 2, []uint32{10, 20}},
		{"of the last point, all", four, 40, 3, []uint32{10, 20, 30}},
		{"no point, none", four, 25, 0, nil},
		{"no point, below 1", four, 25, -9, nil},
		{"no point, one", four, 25, 1, []uint32{30}},
		{"no point, just ahead of one", four, 29, 1, []uint32{30}},
		{"no point, round the end", four, 25, 3, []uint32{30, 40, 10}},
		{"no point, as many as there are", four, 25, 4, []uint32{30, 40, 10, 20}},
		{"no point, more than there are", four, 25, 5, []uint32{30, 40, 10, 20}},
		{"no point, behind the last one", four, 41, 2, []uint32{10, 20}},
		{"no point, ahead of the first one", four, 9, 9, four},
		{"no point, the first value", four, 0, 9, four},
		{"no point, the last value", four, top, 9, four},
		{"the only point", []uint32{10}, 10, 3, nil},
		{"the only point, of what is none", []uint32{10}, 11, 3, []uint32{10}},
		{"side by side, 0", []uint32{0, 5, top}, 0, 2, []uint32{5, top}},
		{"side by side, the greatest", []uint32{0, 5, top}, top, 2, []uint32{0, 5}},
		{"side by side, between", []uint32{0, 5, top}, 5, 2, []uint32{top, 0}},
		{"more than replicas", []uint32{1, 2, 3, 4, 5, 6, 7}, 4, 6, []uint32{5, 6, 7, 1, 2, 3}},
	} {
		p := filled(t, mixed(r.points, strewn(uint64(r.p)))...)
		for range 2 {
			if got := p.ring.Heirs(r.p, r.n); !slices.Equal(got, r.want) {
				t.Errorf("%s: of %v: Heirs(%d, %d): %v; want %v", r.what, r.points, r.p, r.n, got, r.want)
			}
		}
	}
}

// TestP11_1HeirsFull: of MaxNodes all but p itself.
func TestP11_1HeirsFull(t *testing.T) {
	l := many(api.MaxNodes)
	p := filled(t, mixed(l, strewn(3))...)
	for i, v := range l {
		want := slices.Concat(l[i+1:], l[:i])
		for n := range api.MaxNodes + 3 {
			if got := p.ring.Heirs(v, n); !slices.Equal(got, want[:min(n, len(want))]) {
				t.Errorf("Heirs(%d, %d): %v; want the first %d of %v", v, n, got, n, want)
			}
		}
	}
}

func TestP11_1Points(t *testing.T) {
	for _, want := range [][]uint32{nil, {0}, {top}, {0, top}, {half - 1, half}, {0, 1, 2, half, top - 1, top}} {
		for _, l := range orders(want) {
			if got := filled(t, l...).ring.Points(); !slices.Equal(got, want) {
				t.Errorf("Points of %v: %v; want %v", l, got, want)
			}
		}
	}
	p := filled(t, 3, 9)
	p.drop(t, 3)
	p.drop(t, 9)
	if got := p.ring.Points(); len(got) != 0 {
		t.Errorf("Points, all dropped: %v; want none", got)
	}
}

// deeds are such as change a ring, or are refused, one after the other.
func deeds() []func(t *testing.T, p pair) {
	add := func(v uint32) func(*testing.T, pair) {
		return func(t *testing.T, p pair) { t.Helper(); p.add(t, v) }
	}
	drop := func(v uint32) func(*testing.T, pair) {
		return func(t *testing.T, p pair) { t.Helper(); p.drop(t, v) }
	}
	return []func(*testing.T, pair){
		add(1), add(0), add(top), add(half), add(top - 3), drop(0), drop(top), drop(half), drop(half + 1), drop(9), add(9),
	}
}

// TestP11_1Fork goes on with one while the other one is not changed, and the other way round.
func TestP11_1Fork(t *testing.T) {
	for _, l := range [][]uint32{nil, {0}, {9, half}, {0, 9, half, top}, many(api.MaxNodes)} {
		for _, do := range deeds() {
			first := filled(t, l...)
			second := first.fork()
			if second.ring == nil || first.ring == second.ring {
				t.Fatal("the fork is nil, or the same one")
			}
			second.check(t, "a fork")
			do(t, first)
			first.check(t, "what was forked, changed")
			second.check(t, "a fork, the other one changed")
			second.drop(t, 9)
			second.add(t, 8)
			first.check(t, "what was forked, its fork changed")
			do(t, second)
			second.check(t, "a fork, changed")
			first.check(t, "what was forked, its fork changed more")
			third := second.fork().fork()
			third.add(t, 7)
			do(t, third)
			third.check(t, "a fork's fork's fork, changed")
			second.check(t, "a fork, its fork changed")
		}
	}
}

// TestP11_1ForkGrows: both go on from the same points, each with points of its own, wherever those come to stand.
func TestP11_1ForkGrows(t *testing.T) {
	for seed := range uint64(8) {
		next := strewn(seed)
		p := newPair()
		for len(p.like.list) < 40 {
			fork := p.fork()
			p.add(t, uint32(next(half)))
			fork.add(t, uint32(next(half)))
			fork.add(t, top-uint32(next(half)))
			p.check(t, "what was forked, added to")
			fork.check(t, "a fork, added to")
			if next(2) == 0 {
				p = fork
			}
		}
	}
}

// TestP11_1Nil: of nil there is none, whatever is asked.
func TestP11_1Nil(t *testing.T) {
	var r *ring.Ring
	for _, v := range edges() {
		if err := r.Add(v); err != api.ErrNil {
			t.Errorf("Add(%d) to nil: error %d; want ErrNil", v, err)
		}
		if err := r.Drop(v); err != api.ErrNil {
			t.Errorf("Drop(%d) of nil: error %d; want ErrNil", v, err)
		}
		if r.Has(v) {
			t.Errorf("Has(%d) of nil: true", v)
		}
		if got, is := r.Owner(v); got != 0 || is {
			t.Errorf("Owner(%d) of nil: %d, %v", v, got, is)
		}
		if got, is := r.Next(v); got != 0 || is {
			t.Errorf("Next(%d) of nil: %d, %v", v, got, is)
		}
		if got, is := r.Span(v); got != span(0, 0) || is {
			t.Errorf("Span(%d) of nil: %v, %v", v, got, is)
		}
		for _, n := range []int{math.MinInt, -1, 0, 1, math.MaxInt} {
			if got := r.Heirs(v, n); len(got) != 0 {
				t.Errorf("Heirs(%d, %d) of nil: %v", v, n, got)
			}
		}
	}
	if got := r.Points(); len(got) != 0 {
		t.Errorf("Points of nil: %v", got)
	}
	if r.Fork() != nil {
		t.Error("Fork of nil: not nil")
	}
}

// TestP11_1Steps goes on from each value step by step, as the chapter's words have it, to the next of points that stand
// round the seam.
func TestP11_1Steps(t *testing.T) {
	for set := 1; set < 1<<8; set++ {
		p := newPair()
		var last uint32
		for i := range uint32(8) {
			if set>>i&1 == 1 {
				last = i - 4
				p.add(t, last)
			}
		}
		for v := uint32(top - 6); v != last+1; v++ {
			at := v
			for !slices.Contains(p.like.list, at) {
				at++
			}
			if got, is := p.ring.Owner(v); got != at || !is {
				t.Fatalf("of %v: Owner(%d): %d, %v; want %d", p.like.list, v, got, is, at)
			}
			if got, is := p.ring.Next(v - 1); got != at || !is {
				t.Fatalf("of %v: Next(%d): %d, %v; want %d", p.like.list, v-1, got, is, at)
			}
		}
		p.check(t, "round the seam")
	}
}

// TestP11_Everywhere makes strewn deeds, and holds the ring against a plain one.
func TestP11_Everywhere(t *testing.T) {
	for seed := range uint64(40) {
		next := strewn(seed)
		all := []pair{newPair()}
		values := append(edges(), many(2+next(100))...)
		for range 200 {
			p, v := all[next(len(all))], values[next(len(values))]
			switch next(8) {
			default:
				p.add(t, v)
			case 0, 1:
				p.drop(t, v)
			case 2:
				if len(all) < 4 {
					all = append(all, p.fork())
				} else {
					all[next(len(all))] = p.fork()
				}
			}
			p.ask(t, "so far", v)
		}
		for _, p := range all {
			p.check(t, "in the end")
		}
	}
}

// TestWhatFollows: each value has one owner: just one point's span has it, that of its Owner; laid one behind the other
// the spans go once round the circle.
func TestWhatFollows(t *testing.T) {
	for seed := range uint64(60) {
		next := strewn(seed)
		r := ring.New()
		for _, v := range edges() {
			if next(3) == 0 {
				r.Add(v)
			}
		}
		for range next(30) + 1 {
			r.Add(uint32(next(half))<<1 | uint32(next(2)))
		}
		points := r.Points()
		asked := edges()
		size := uint64(0)
		for i, p := range points {
			s, is := r.Span(p)
			if !is || s.To != p || s.From != points[(i+len(points)-1)%len(points)] {
				t.Fatalf("of %v: Span(%d): %v, %v", points, p, s, is)
			}
			if after, is := r.Next(s.From); !is || after != p {
				t.Fatalf("of %v: Next(%d): %d, %v; want %d", points, s.From, after, is, p)
			}
			size += circle.Size(s)
			asked = append(asked, p-1, p, p+1, circle.Middle(s))
		}
		if size != 1<<32 {
			t.Fatalf("of %v: the spans have %d values; want all, once", points, size)
		}
		for _, v := range asked {
			var owners []uint32
			for _, p := range points {
				if s, _ := r.Span(p); circle.Has(s, v) {
					owners = append(owners, p)
				}
			}
			if got, is := r.Owner(v); !is || !slices.Equal(owners, []uint32{got}) {
				t.Fatalf("of %v: Owner(%d): %d, %v; its spans' points: %v", points, v, got, is, owners)
			}
		}
	}
}

// TestR1: a ring that New did not make has no points, and takes some.
func TestR1(t *testing.T) {
	p := pair{&ring.Ring{}, &plain{}}
	p.check(t, "one that New did not make")
	p.fork().check(t, "its fork")
	for _, do := range deeds() {
		do(t, p)
		p.check(t, "one that New did not make, changed")
	}
	full := pair{&ring.Ring{}, &plain{}}
	for _, v := range many(api.MaxNodes + 1) {
		full.add(t, v)
	}
	full.check(t, "one that New did not make, filled")
}

// TestR2Apart: what is done with one does not touch another one; a plain copy is another one.
func TestR2Apart(t *testing.T) {
	for _, l := range [][]uint32{nil, {0}, {9, half}, {0, 9, half, top}, many(20)} {
		for _, do := range deeds() {
			one := filled(t, l...)
			two, three := one.plainCopy(), one.plainCopy()
			do(t, one)
			one.check(t, "what was copied, changed")
			two.check(t, "a plain copy, the other one changed")
			two.drop(t, 9)
			two.add(t, 8)
			do(t, two)
			one.check(t, "what was copied, its copy changed")
			two.check(t, "a plain copy, changed")
			three.check(t, "another plain copy")
			*one.ring, one.like.list = *three.ring, slices.Clone(three.like.list)
			one.add(t, 7)
			do(t, one)
			one.check(t, "what was set back, changed")
			three.check(t, "what it was set back to")
		}
	}
}

// TestR2Together: forks and copies may be changed at the same time, and one ring asked by many.
func TestR2Together(t *testing.T) {
	p := filled(t, 0, 9, half, top)
	var jobs sync.WaitGroup
	for i := range 8 {
		forks := []pair{p.fork(), p.plainCopy()}
		jobs.Go(func() {
			for _, one := range forks {
				for _, do := range deeds()[i:] {
					do(t, one)
					one.ask(t, "at the same time, changed", 9)
					p.ask(t, "at the same time, asked", uint32(i))
				}
			}
		})
	}
	jobs.Wait()
	p.check(t, "what was forked and copied")
}

// TestR2Reading: who only asks changes nothing, and is answered alike.
func TestR2Reading(t *testing.T) {
	p := filled(t, many(30)...)
	for range 3 {
		p.check(t, "asked again")
		p.ring.Fork()
	}
}

// TestR3Out: who writes into what Points and Heirs told, and into the room behind its end, changes nothing else.
func TestR3Out(t *testing.T) {
	for _, l := range [][]uint32{{7}, {0, top}, {10, 20, 30, 40, 50}, many(20)} {
		p := filled(t, l...)
		fork, twin := p.fork(), p.plainCopy()
		calls := map[string]func() []uint32{"Points": p.ring.Points, "Points of a fork": fork.ring.Points}
		for _, n := range []int{-1, 0, 1, 2, len(l) - 1, len(l), len(l) + 1} {
			calls["Heirs of a point"] = func() []uint32 { return p.ring.Heirs(l[0], n) }
			calls["Heirs of no point"] = func() []uint32 { return p.ring.Heirs(half+77, n) }
			for name, call := range calls {
				first, second := call(), call()
				want := slices.Clone(second)
				spoil(first)
				if !slices.Equal(second, want) {
					t.Errorf("%s: another answer was spoilt: %v; want %v", name, second, want)
				}
				p.check(t, name+" told, spoilt")
				fork.check(t, name+" told, spoilt, of a fork")
				twin.check(t, name+" told, spoilt, of a plain copy")
				p.drop(t, l[0])
				p.add(t, 6)
				if !slices.Equal(second, want) {
					t.Errorf("%s: told ahead of a change: %v; want %v", name, second, want)
				}
				spoil(second)
				p.drop(t, 6)
				p.add(t, l[0])
				p.check(t, name+" told, spoilt, and the ring changed")
			}
		}
	}
}
