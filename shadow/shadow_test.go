package shadow_test

import (
	"math"
	"slices"
	"sync"
	"testing"

	"petasos/api"
	"petasos/shadow"
)

// TestExample is the chapter's.
func TestExample(t *testing.T) {
	s := shadow.New()
	if !s.Put(5, entry(7, 7, 1)) {
		t.Error("Put: false")
	}
	if got := s.Owners(); !slices.Equal(got, []uint32{5}) {
		t.Errorf("Owners: %v; want 5", got)
	}
}

func TestP10_1New(t *testing.T) {
	p := newPair()
	if p.shadow == nil {
		t.Fatal("New: nil")
	}
	p.check(t, "new")
	p.put(t, 5, entry(1, 1, 1))
	newPair().check(t, "another new one")
}

// TestP10_1Put lays one entry, and another one of its key, which has other Values: true, whichever of the two is
// there by then.
func TestP10_1Put(t *testing.T) {
	is := func(version uint64, values ...uint32) api.Entry { return entry(5, 7, version, values...) }
	for _, r := range []struct {
		what          string
		first, second api.Entry
		laid          bool
	}{
		{"newer", is(1, 5), is(2, 6), true},
		{"newer, with no Values", is(1, 5), is(2), true},
		{"newer than one with no Values", is(1), is(2, 5, 6), true},
		{"newer, by high bits", is(math.MaxUint32, 5), is(1<<32, 6), true},
		{"newer, by the highest bit", is(1<<63-1, 5), is(1<<63, 6), true},
		{"newer, and Gone", is(1, 5), gone(is(2, 6)), true},
		{"newer, of one that is Gone", gone(is(1, 5)), is(2, 6), true},
		{"newer, both Gone", gone(is(1, 5)), gone(is(2, 6)), true},
		{"newer, as it is Gone", is(2, 5), gone(is(2, 6)), true},
		{"newer, as it is Gone, of version 0", is(0, 5), gone(is(0, 6)), true},
		{"older", is(2, 5), is(1, 6), false},
		{"older, with the same Values", is(2, 5), is(1, 5), false},
		{"older, by high bits", is(1<<32, 5), is(math.MaxUint32, 6), false},
		{"older, by the highest bit", is(1<<63, 5), is(1<<63-1, 6), false},
		{"older, and Gone", is(2, 5), gone(is(1, 6)), false},
		{"older, of one that is Gone", gone(is(2, 5)), is(1, 6), false},
		{"older, both Gone", gone(is(2, 5)), gone(is(1, 6)), false},
		{"older, as the other one is Gone", gone(is(2, 5)), is(2, 6), false},
		{"older, as the other one is Gone, of version 0", gone(is(0, 5)), is(0, 5), false},
		{"the same", is(2, 5), is(2, 5), false},
		{"as new, with other Values", is(2, 5), is(2, 6), false},
		{"as new, with no Values", is(2, 5), is(2), false},
		{"as new, both Gone", gone(is(2, 5)), gone(is(2, 6)), false},
		{"as new, of version 0", is(0, 5), is(0, 6), false},
		{"as new, of version 0, both Gone", gone(is(0, 5)), gone(is(0, 6)), false},
		{"as new, of the greatest version", is(math.MaxUint64, 5), is(math.MaxUint64, 6), false},
	} {
		s := shadow.New()
		if !s.Put(9, r.first) {
			t.Errorf("%s: the first Put: false", r.what)
		}
		left := r.first
		if r.laid {
			left = r.second
		}
		for turn := range 2 { // what was laid is as new as itself; what was not is so again
			if !s.Put(9, r.second) {
				t.Errorf("%s: the second Put, turn %d: false", r.what, turn)
			}
			alike(t, r.what, 9, s.Of(9), []api.Entry{left})
		}
	}
}

// TestP10_1PutBeside: entries of unlike keys, or of unlike owners, stand beside each other.
func TestP10_1PutBeside(t *testing.T) {
	p := newPair()
	for i, e := range grid() {
		for k, owner := range owners {
			e.Record.Version = uint64((i + k) % 7)
			if !p.put(t, owner, e) {
				t.Fatalf("Put(%d, %v): false, though there is none of its key", owner, e)
			}
		}
	}
	p.check(t, "put")
	for i, e := range grid() {
		for k, owner := range owners {
			e.Record.Version, e.Gone = uint64((i+k+k%3)%7), k%2 == 0
			p.put(t, owner, e)
		}
	}
	p.check(t, "put again")
}

// TestP10_1PutFull: to a full shelf only what is of a key that is there is put, and each owner's is full by itself.
func TestP10_1PutFull(t *testing.T) {
	l := many(api.MaxEntries)
	p := newPair()
	p.set(5, l[1:]...)
	if !p.put(t, 5, l[0]) {
		t.Error("Put of the last one for which there is room: false")
	}
	for _, e := range []api.Entry{entry(3, 1, 1), gone(entry(3, 1, 1)), entry(3, 1, math.MaxUint64), {Value: 3}, entry(l[9].Value, l[9].Record.Id+3, 9)} {
		for range 2 {
			if p.put(t, 5, e) {
				t.Errorf("Put(%v) to a full shelf: true", e)
			}
		}
	}
	p.check(t, "full, and refused")
	for _, i := range []int{0, 1, 4999, api.MaxEntries - 1} {
		e := entry(l[i].Value, l[i].Record.Id, 20, 3)
		for _, e := range []api.Entry{l[i], entry(e.Value, e.Record.Id, 0), e, e, l[i], gone(e), e, gone(e)} {
			if !p.put(t, 5, e) {
				t.Errorf("Put(%v) to a full shelf that has its key: false", e)
			}
		}
	}
	p.check(t, "full, and newer ones put")
	if !p.put(t, 4, entry(3, 1, 1)) || !p.put(t, 6, l[0]) {
		t.Error("Put, the other owner's shelf full: false")
	}
	p.check(t, "full, and another owner's put")
	p.drop(t, 5)
	if !p.put(t, 5, entry(3, 1, 1)) {
		t.Error("Put where a full shelf was dropped: false")
	}
	p.check(t, "dropped, and put")
}

// TestP10_1Of: from value 0 on, of one value by rising Id, whatever order they came in.
func TestP10_1Of(t *testing.T) {
	want := []api.Entry{
		entry(0, 3, 9), gone(entry(0, 8, 1)), entry(1, 0, 1), entry(10, 3, 4, 10, 10), entry(10, 1<<32, 3), gone(entry(10, 1<<63, 2)),
		entry(1<<31-1, 5, 1), entry(1<<31, 4, 1), entry(top-1, 9, 1), entry(top, 0, 1), entry(top, 2, 1), entry(top, math.MaxUint64, 0),
	}
	for turn := range uint64(30) {
		next := strewn(turn)
		s := shadow.New()
		for _, e := range mixed(want, next) {
			s.Put(7, e)
			s.Put(8, gone(e))
		}
		for range 2 {
			alike(t, "put", 7, s.Of(7), want)
		}
		s.Set(8, mixed(want, next))
		alike(t, "set", 8, s.Of(8), want)
		for _, owner := range []uint32{0, 6, 9, 1<<31 + 7, top} {
			alike(t, "of an owner that has none", owner, s.Of(owner), nil)
		}
	}
}

// TestP10_1Drop: how many there were, Gone or not; none, of an owner that has no shelf; and what is older may come again.
func TestP10_1Drop(t *testing.T) {
	p := newPair()
	for _, owner := range owners {
		if p.drop(t, owner) != 0 {
			t.Errorf("Drop(%d) of a new one: not 0", owner)
		}
	}
	p.check(t, "nothing dropped")
	for i, owner := range owners {
		p.set(owner, many(i*10+1)...)
	}
	for i, owner := range owners {
		if p.drop(t, owner+10) != 0 || p.drop(t, owner) != i*10+1 || p.drop(t, owner) != 0 {
			t.Errorf("Drop(%d): not %d once", owner, i*10+1)
		}
		p.check(t, "dropped")
		p.put(t, owner, entry(0, 0, 0, 9))
		p.check(t, "put where it was dropped")
		if p.drop(t, owner) != 1 {
			t.Errorf("Drop(%d) of one entry: not 1", owner)
		}
	}
	p.check(t, "all dropped")
	p.put(t, 5, gone(entry(1, 1, 1)))
	p.put(t, 5, gone(entry(1, 1, 1)))
	p.put(t, 5, gone(entry(1, 2, 1)))
	if p.drop(t, 5) != 2 {
		t.Error("Drop of two that are Gone: not 2")
	}
}

// TestP10_1Set: the newest of each key are there, the first of those that are alike, and nothing of what was there.
func TestP10_1Set(t *testing.T) {
	is := func(version uint64, value uint32) api.Entry { return entry(5, 7, version, value) }
	for _, r := range []struct {
		what      string
		set, left []api.Entry
	}{
		{"nil", nil, nil},
		{"an empty list", []api.Entry{}, nil},
		{"one", []api.Entry{is(1, 1)}, []api.Entry{is(1, 1)}},
		{"one that is Gone", []api.Entry{gone(is(0, 1))}, []api.Entry{gone(is(0, 1))}},
		{"of one key, rising", []api.Entry{is(1, 1), is(2, 2), is(3, 3)}, []api.Entry{is(3, 3)}},
		{"of one key, falling", []api.Entry{is(3, 3), is(2, 2), is(1, 1)}, []api.Entry{is(3, 3)}},
		{"of one key, up and down", []api.Entry{is(2, 1), is(1, 2), is(3, 3), is(2, 4), is(3, 5)}, []api.Entry{is(3, 3)}},
		{"of one key, alike", []api.Entry{is(2, 1), is(2, 2), is(2, 3)}, []api.Entry{is(2, 1)}},
		{"of one key, one of them Gone", []api.Entry{is(2, 1), gone(is(2, 2)), is(2, 3), gone(is(2, 4))}, []api.Entry{gone(is(2, 2))}},
		{"of one key, Gone, and newer", []api.Entry{gone(is(2, 1)), is(3, 2), gone(is(2, 3))}, []api.Entry{is(3, 2)}},
		{
			"of unlike keys, falling", []api.Entry{entry(top, 1, 1), entry(5, 9, 1), entry(5, 8, 1), entry(0, 3, 1), entry(0, 2, 1)},
			[]api.Entry{entry(0, 2, 1), entry(0, 3, 1), entry(5, 8, 1), entry(5, 9, 1), entry(top, 1, 1)},
		},
		{
			"of unlike keys, up and down", []api.Entry{entry(2, 1, 1), entry(1, 2, 2), entry(1, 1, 4), entry(2, 1, 2), entry(1, 2, 1), entry(1, 1, 4)},
			[]api.Entry{entry(1, 1, 4), entry(1, 2, 2), entry(2, 1, 2)},
		},
	} {
		for _, there := range [][]api.Entry{nil, {is(9, 9)}, {gone(is(9, 9)), entry(5, 8, 8), entry(4, 7, 7), entry(0, 2, 9)}, r.set, grid()} {
			p := newPair()
			p.put(t, 3, entry(1, 1, 1))
			for _, e := range there {
				p.put(t, 9, e)
			}
			for range 2 {
				p.set(9, r.set...)
				alike(t, r.what, 9, p.shadow.Of(9), r.left)
				p.check(t, r.what+": set")
			}
			p.put(t, 9, is(2, 8))
			p.check(t, r.what+": set, and put")
			p.drop(t, 9)
			p.check(t, r.what+": set, put, and dropped")
		}
	}
}

// TestP10_1SetOrders: whatever order they come in, the newest of each key are there.
func TestP10_1SetOrders(t *testing.T) {
	l := append(grid(), grid()...)
	for i := range len(l) / 2 {
		l[i].Record.Version += 9
		l[i].Gone = i%2 == 0
	}
	for turn := range uint64(20) {
		next := strewn(turn)
		p := newPair()
		p.set(0, many(9)...)
		p.set(0, mixed(l, next)...)
		p.set(top, mixed(l, next)...)
		p.check(t, "set")
		alike(t, "set in another order", top, p.shadow.Of(top), p.shadow.Of(0))
	}
}

// TestP10_1SetFull: what finds no room is passed over; what is of a key that is there goes in.
func TestP10_1SetFull(t *testing.T) {
	l := many(api.MaxEntries + 3)
	newest := func(i int) api.Entry { return entry(l[i].Value, l[i].Record.Id, 30, 3) }
	s := shadow.New()
	for _, more := range [][]api.Entry{nil, l[api.MaxEntries:], {newest(7), l[api.MaxEntries], newest(api.MaxEntries - 1), newest(api.MaxEntries + 1), newest(0)}} {
		want := slices.Clone(l[:api.MaxEntries])
		for _, e := range more {
			if i := int(e.Record.Id); i < api.MaxEntries {
				want[i] = e
			}
		}
		s.Set(5, append(slices.Clone(l[:api.MaxEntries]), more...))
		alike(t, "set to more than there is room for", 5, s.Of(5), want)
		if s.Put(5, entry(3, 3, 3)) {
			t.Error("Put to one that was set full: true")
		}
		if got := s.Owners(); !slices.Equal(got, []uint32{5}) {
			t.Errorf("Owners: %v; want 5", got)
		}
	}
	s.Set(5, l[:2])
	alike(t, "set again, to two", 5, s.Of(5), l[:2])
	if !s.Put(5, entry(3, 3, 3)) || s.Drop(5) != 3 {
		t.Error("one that was full, and was set to two, has no room")
	}
}

// TestP10_1Owners: just those that have entries, rising, whatever order they came in.
func TestP10_1Owners(t *testing.T) {
	e := entry(1, 1, 1)
	for _, r := range []struct {
		what string
		deed func(s *shadow.Shadow)
		want []uint32
	}{
		{"nothing done", func(s *shadow.Shadow) {}, nil},
		{"owner 0", func(s *shadow.Shadow) { s.Put(0, e) }, []uint32{0}},
		{"the greatest owner", func(s *shadow.Shadow) { s.Put(top, e) }, []uint32{top}},
		{"both", func(s *shadow.Shadow) { s.Put(top, e); s.Set(0, []api.Entry{e}) }, []uint32{0, top}},
		{"falling", func(s *shadow.Shadow) { s.Put(1<<31, e); s.Put(7, e); s.Put(1<<31-1, e); s.Put(6, e) }, []uint32{6, 7, 1<<31 - 1, 1 << 31}},
		{"one that is Gone", func(s *shadow.Shadow) { s.Put(7, gone(e)) }, []uint32{7}},
		{"one of zeros", func(s *shadow.Shadow) { s.Put(7, api.Entry{}) }, []uint32{7}},
		{"twice", func(s *shadow.Shadow) { s.Put(7, e); s.Put(7, e); s.Put(7, entry(2, 2, 2)) }, []uint32{7}},
		{"dropped", func(s *shadow.Shadow) { s.Put(7, e); s.Put(8, e); s.Drop(7) }, []uint32{8}},
		{"all dropped", func(s *shadow.Shadow) { s.Put(7, e); s.Drop(7) }, nil},
		{"dropped, never there", func(s *shadow.Shadow) { s.Put(7, e); s.Drop(8) }, []uint32{7}},
		{"dropped, and put", func(s *shadow.Shadow) { s.Put(7, e); s.Drop(7); s.Put(7, e) }, []uint32{7}},
		{"set to nothing", func(s *shadow.Shadow) { s.Put(7, e); s.Put(8, e); s.Set(8, nil) }, []uint32{7}},
		{"set to an empty list", func(s *shadow.Shadow) { s.Put(7, e); s.Set(7, []api.Entry{}) }, nil},
		{"set to nothing, never there", func(s *shadow.Shadow) { s.Set(7, nil); s.Put(8, e) }, []uint32{8}},
		{"set to nothing, and put", func(s *shadow.Shadow) { s.Set(7, nil); s.Put(7, e) }, []uint32{7}},
		{"set to nothing, and dropped", func(s *shadow.Shadow) { s.Put(7, e); s.Set(7, nil); s.Drop(7) }, nil},
		{"asked", func(s *shadow.Shadow) { s.Of(7); s.Put(8, e); s.Of(9); s.Of(8) }, []uint32{8}},
	} {
		s := shadow.New()
		r.deed(s)
		for range 2 {
			if got := s.Owners(); !slices.Equal(got, r.want) {
				t.Errorf("%s: Owners: %v; want %v", r.what, got, r.want)
			}
		}
	}
}

// TestP10_1OwnersMany: more of them than there may be nodes.
func TestP10_1OwnersMany(t *testing.T) {
	next := strewn(1)
	p := newPair()
	for i := range 700 {
		owner := uint32(next(1<<31)) * 2
		p.put(t, owner, entry(owner, uint64(i), 1))
		if i%3 == 0 {
			p.drop(t, owner)
		}
	}
	p.check(t, "strewn owners")
}

// deed is one that changes a shadow.
type deed struct {
	what string
	do   func(t *testing.T, p pair)
}

// deeds are such as change a shadow that some has filled.
func deeds() []deed {
	put := func(owner uint32, e api.Entry) func(*testing.T, pair) {
		return func(t *testing.T, p pair) { t.Helper(); p.put(t, owner, e) }
	}
	drop := func(owner uint32) func(*testing.T, pair) {
		return func(t *testing.T, p pair) { t.Helper(); p.drop(t, owner) }
	}
	set := func(owner uint32, l ...api.Entry) func(*testing.T, pair) {
		return func(t *testing.T, p pair) { p.set(owner, l...) }
	}
	return []deed{
		{"a newer one put", put(5, entry(1, 1, 99, 3))},
		{"one that is Gone put", put(5, gone(entry(1, 1, 99)))},
		{"an older one put", put(5, entry(1, 1, 0))},
		{"a new key put", put(5, entry(3, 3, 3))},
		{"a new owner's put", put(6, entry(1, 1, 1))},
		{"one dropped", drop(5)},
		{"owner 0 dropped", drop(0)},
		{"one dropped that has none", drop(6)},
		{"one set to nothing", set(5)},
		{"one set", set(5, many(4)...)},
		{"owner 0 set", set(0, entry(1, 1, 0))},
		{"a new owner set", set(6, many(3)...)},
	}
}

// some fills a shadow with entries of n owners.
func some(t *testing.T, n int) pair {
	t.Helper()
	var l []held
	for _, owner := range []uint32{5, 0, top}[:n] {
		for i, e := range grid() {
			if i%4 == 0 || e.Value == 1 {
				l = append(l, held{owner, e})
			}
		}
	}
	return filled(t, l)
}

// TestP10_1Fork goes on with one while the other one is not changed, and the other way round.
func TestP10_1Fork(t *testing.T) {
	for n := range 4 {
		for _, d := range deeds() {
			first := some(t, n)
			second := first.fork()
			if first.shadow == second.shadow {
				t.Fatal("the fork is the same one")
			}
			second.check(t, "a fork")
			d.do(t, first)
			first.check(t, d.what+": what was forked, changed")
			second.check(t, d.what+": a fork, the other one changed")
			second.put(t, 5, entry(1, 2, 98))
			second.put(t, 7, entry(1, 2, 98))
			first.check(t, d.what+": what was forked, its fork changed")
			d.do(t, second)
			second.check(t, d.what+": a fork, changed")
			first.check(t, d.what+": what was forked, its fork changed more")

			third := second.fork().fork()
			d.do(t, third)
			third.drop(t, 5)
			third.drop(t, 7)
			third.check(t, d.what+": a fork's fork's fork, changed")
			second.check(t, d.what+": a fork, its fork changed")
		}
	}
}

// TestP10_1Nil: of nil there is none, whatever is asked, and whatever was done.
func TestP10_1Nil(t *testing.T) {
	var s *shadow.Shadow
	for range 2 {
		for _, owner := range owners {
			for _, e := range append(grid(), api.Entry{}, gone(api.Entry{})) {
				if s.Put(owner, e) {
					t.Errorf("Put(%d, %v) to nil: true", owner, e)
				}
			}
			s.Set(owner, grid())
			s.Set(owner, nil)
			if got := s.Of(owner); len(got) != 0 {
				t.Errorf("Of(%d) of nil: %v", owner, got)
			}
			if got := s.Drop(owner); got != 0 {
				t.Errorf("Drop(%d) of nil: %d", owner, got)
			}
		}
		if got := s.Owners(); len(got) != 0 {
			t.Errorf("Owners of nil: %v", got)
		}
		if s.Fork() != nil {
			t.Error("Fork of nil: not nil")
		}
	}
}

// TestP10_Everywhere makes strewn deeds, and holds the shadow against a plain one.
func TestP10_Everywhere(t *testing.T) {
	for seed := range uint64(60) {
		next := strewn(seed)
		all := []pair{newPair()}
		for range 250 {
			p, owner := all[next(len(all))], owners[next(5)]
			switch next(12) {
			default:
				p.put(t, owner, strewnEntry(next))
			case 0:
				p.drop(t, owner)
			case 1, 2:
				var l []api.Entry
				for range next(3) * next(20) {
					l = append(l, strewnEntry(next))
				}
				p.set(owner, l...)
			case 3:
				if len(all) < 4 {
					all = append(all, p.fork())
				} else {
					all[next(len(all))] = p.fork()
				}
			}
			p.check(t, "so far")
		}
		for _, p := range all {
			p.check(t, "in the end")
		}
	}
}

// TestWhatFollows: owners do not touch each other's: whatever is done of one, of the others there is what was there.
func TestWhatFollows(t *testing.T) {
	for _, one := range owners {
		p := newPair()
		for i, owner := range owners {
			p.set(owner, mixed(grid(), strewn(uint64(i)))...)
		}
		others := p.fork()
		others.drop(t, one)
		for _, do := range []func(){
			func() { p.shadow.Put(one, entry(1, 1, 99)) },
			func() { p.shadow.Put(one, entry(3, 3, 3)) },
			func() { p.shadow.Put(one, entry(1, 1, 0)) },
			func() { p.shadow.Set(one, many(api.MaxEntries)) },
			func() { p.shadow.Put(one, entry(3, 3, 3)) },
			func() { p.shadow.Set(one, nil) },
			func() { p.shadow.Put(one, entry(1, 1, 99)) },
			func() { p.shadow.Drop(one) },
		} {
			do()
			for _, owner := range others.shadow.Owners() {
				alike(t, "another owner's", owner, p.shadow.Of(owner), others.like.of(owner))
			}
		}
		others.check(t, "one dropped")
		if got, want := p.shadow.Owners(), others.shadow.Owners(); len(got) != len(owners)-1 || !slices.Equal(got, want) {
			t.Errorf("Owners, %d dropped: %v; want %v", one, got, want)
		}
	}
}

// TestR1: whatever an entry has, it is kept as it is; and a shadow that New did not make has nothing.
func TestR1(t *testing.T) {
	wild := []api.Entry{
		{}, {Gone: true}, entry(top, math.MaxUint64, math.MaxUint64), gone(entry(top, math.MaxUint64, 0)), entry(3, 16<<32, 0),
		{Value: 3, Record: api.Record{Id: 1 << 40, Values: make([]uint32, 100000)}},
		{Value: 3, Record: api.Record{Id: 1, Version: 1, Values: make([]uint32, 0, 5)}},
	}
	for _, p := range []pair{newPair(), {&shadow.Shadow{}, &plain{}}} {
		p.check(t, "nothing")
		p.fork().check(t, "a fork of nothing")
		for _, owner := range owners {
			p.drop(t, owner)
			p.check(t, "nothing dropped")
			for _, e := range wild {
				p.put(t, owner, e)
			}
			p.check(t, "put")
			other := p.fork()
			other.set(owner, wild...)
			other.set(owner, append(wild, wild...)...)
			other.check(t, "set")
		}
		other := pair{&shadow.Shadow{}, &plain{}}
		other.set(5)
		other.check(t, "set to nothing")
		other.set(0, wild...)
		other.check(t, "set, ahead of all else")
	}
}

// TestR2Apart: what is done with one does not touch another one; a plain copy is another one.
func TestR2Apart(t *testing.T) {
	for n := range 4 {
		for _, d := range deeds() {
			one := some(t, n)
			two, three := one.plainCopy(), one.plainCopy()
			d.do(t, one)
			one.check(t, d.what+": what was copied, changed")
			two.check(t, d.what+": a plain copy, the other one changed")
			two.put(t, 5, entry(1, 2, 98))
			d.do(t, two)
			one.check(t, d.what+": what was copied, changed, its copy changed")
			two.check(t, d.what+": a plain copy, changed")
			three.check(t, d.what+": another plain copy")
			*one.shadow, one.like.list = *three.shadow, slices.Clone(three.like.list)
			one.put(t, 5, entry(1, 2, 97))
			d.do(t, one)
			one.check(t, d.what+": what was set back, changed")
			three.check(t, d.what+": what it was set back to")
		}
	}
}

// TestR2Together: forks and copies may be changed at the same time.
func TestR2Together(t *testing.T) {
	p := some(t, 3)
	var jobs sync.WaitGroup
	for i := range 8 {
		forks := []pair{p.fork(), p.plainCopy()}
		jobs.Go(func() {
			for _, one := range forks {
				for _, d := range deeds()[i:] {
					d.do(t, one)
					one.shadow.Of(5)
					one.shadow.Owners()
				}
				p.shadow.Fork().Drop(5)
			}
		})
	}
	jobs.Wait()
	p.check(t, "what was forked and copied")
}

// TestR2Reading: who only asks changes nothing, and is answered alike.
func TestR2Reading(t *testing.T) {
	p := some(t, 3)
	for range 3 {
		for _, owner := range owners {
			p.shadow.Of(owner)
			p.shadow.Owners()
			p.shadow.Fork()
		}
		p.check(t, "asked again")
	}
}

// TestR3In: what is handed in is not changed and not kept, nor is the room behind its end.
func TestR3In(t *testing.T) {
	for _, n := range []int{0, 1, 2, 8, 100} {
		room := append(slices.Repeat([]uint32{5}, n), 1, 2, 3)
		kept := slices.Clone(room)
		p := newPair()
		for _, version := range []uint64{1, 2, 2, 1} { // new, newer, as new, older
			p.put(t, 5, entry(5, 7, version, room[:n]...))
		}
		p.put(t, 0, entry(5, 7, 1, room[:n]...))
		if !slices.Equal(room, kept) {
			t.Errorf("Put changed %d Values, or the room behind", n)
		}
		fork := p.fork()
		spoil(room)
		p.check(t, "what was put, spoilt")
		fork.check(t, "what was put, spoilt, of a fork")
	}
}

// TestR3InSet: likewise of a list, and of what its entries have.
func TestR3InSet(t *testing.T) {
	for _, n := range []int{0, 1, 2, 8, 100} {
		room := append(slices.Repeat([]uint32{5}, n), 1, 2, 3)
		kept := slices.Clone(room)
		l := []api.Entry{entry(9, 9, 9, room[:n]...), entry(8, 8, 8, 1), entry(9, 9, 8, 2), entry(7, 7, 7), entry(6, 6, 6)}
		was := slices.Clone(l)
		p := newPair()
		p.set(5, l[:4]...)
		p.set(0, l[:4]...)
		p.set(5, l[:4]...)
		alike(t, "Set changed its list, or the room behind", 5, l, was)
		if !slices.Equal(room, kept) {
			t.Errorf("Set changed %d Values, or the room behind", n)
		}
		fork := p.fork()
		spoil(room)
		spoilAll(l)
		p.check(t, "what was set, spoilt")
		fork.check(t, "what was set, spoilt, of a fork")
	}
}

// TestR3Out: who writes into what is told, and into the room behind its end, changes nothing else.
func TestR3Out(t *testing.T) {
	p := some(t, 3)
	fork := p.fork()
	for _, owner := range p.like.owners() {
		first, second := p.shadow.Of(owner), p.shadow.Of(owner)
		spoilAll(first)
		alike(t, "another one told, spoilt", owner, second, p.like.of(owner))
		for i, want := range p.like.of(owner) {
			if !same(second[i], want) {
				t.Fatalf("another one's Values of the same answer spoilt: %v; want %v", second[i], want)
			}
			spoil(second[i].Record.Values)
		}
		p.check(t, "what Of told, spoilt")
	}
	want := []uint32{0, 5, top}
	first, second := p.shadow.Owners(), p.shadow.Owners()
	spoil(first)
	if !slices.Equal(second, want) {
		t.Errorf("another one told, spoilt: Owners: %v; want %v", second, want)
	}
	p.drop(t, 0)
	p.shadow.Owners()
	if !slices.Equal(second, want) {
		t.Errorf("Owners, told ahead of a Drop: %v; want %v", second, want)
	}
	spoil(second)
	p.check(t, "what Owners told, spoilt")
	fork.check(t, "what was told, spoilt, of a fork")
}
