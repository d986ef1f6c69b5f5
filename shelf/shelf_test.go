package shelf_test

import (
	"math"
	"slices"
	"sync"
	"testing"

	"petasos/api"
	"petasos/shelf"
)

// TestExample is the chapter's.
func TestExample(t *testing.T) {
	s := shelf.New()
	for _, r := range []struct {
		version uint64
		want    bool
	}{{2, true}, {1, false}} {
		if got, err := s.Put(entry(5, 7, r.version)); got != r.want || err != api.OK {
			t.Errorf("Put of the version %d: %v, %d; want %v", r.version, got, err, r.want)
		}
	}
}

func TestP9_1New(t *testing.T) {
	p := newPair()
	if p.shelf == nil {
		t.Fatal("New: nil")
	}
	p.check(t, "new")
	for _, e := range grid() {
		p.get(t, api.Key{Value: e.Value, Id: e.Record.Id})
	}
	p.put(t, entry(1, 1, 1))
	newPair().check(t, "another new one")
}

// TestP9_1Put lays one entry, and another one of its key, which has other values.
func TestP9_1Put(t *testing.T) {
	is := func(version uint64, values ...uint32) api.Entry {
		return api.Entry{Value: 5, Record: api.Record{Id: 7, Version: version, Values: values}}
	}
	for _, r := range []struct {
		what          string
		first, second api.Entry
		want          bool
	}{
		{"newer", is(1, 5), is(2, 5, 6), true},
		{"far newer", is(1, 5), is(math.MaxUint64), true},
		{"newer, by high bits", is(math.MaxUint32, 5), is(1<<32, 6), true},
		{"older, by high bits", is(1<<32, 6), is(math.MaxUint32, 5), false},
		{"newer, by the highest bit", is(1<<63-1, 5), is(1<<63, 6), true},
		{"older, by the highest bit", is(1<<63, 5), is(1<<63-1, 6), false},
		{"older", is(2, 5), is(1, 6), false},
		{"as old", is(2, 5), is(2, 6), false},
		{"the same", is(2, 5), is(2, 5), false},
		{"as old, and Gone", is(2, 5), gone(is(2, 6)), true},
		{"as old, and not Gone, of one that is", gone(is(2, 5)), is(2, 6), false},
		{"as old, both Gone", gone(is(2, 5)), gone(is(2, 6)), false},
		{"newer, of one that is Gone", gone(is(2, 5)), is(3, 6), true},
		{"newer, and Gone", is(2, 5), gone(is(3, 6)), true},
		{"newer, both Gone", gone(is(2, 5)), gone(is(3, 6)), true},
		{"older, of one that is Gone", gone(is(2, 5)), is(1, 6), false},
		{"older, and Gone", is(2, 5), gone(is(1, 6)), false},
		{"older, both Gone", gone(is(2, 5)), gone(is(1, 6)), false},
		{"of version 0", is(0, 5), is(0, 6), false},
		{"of version 0, and Gone", is(0, 5), gone(is(0, 6)), true},
		{"newer than version 0", is(0, 5), is(1, 6), true},
		{"newer, with no values", is(1, 5, 6, 7), is(2), true},
		{"newer than one with no values", is(1), is(2, 5, 6, 7), true},
	} {
		p := newPair()
		if got, err := p.shelf.Put(r.first); !got || err != api.OK {
			t.Errorf("%s: the first Put: %v, %d", r.what, got, err)
		}
		if got, err := p.shelf.Put(r.second); got != r.want || err != api.OK {
			t.Errorf("%s: the second Put: %v, %d; want %v", r.what, got, err, r.want)
		}
		p.like.list = []api.Entry{r.first}
		if r.want {
			p.like.list = []api.Entry{r.second}
		}
		p.check(t, r.what)
		p.put(t, r.first)
		p.put(t, r.second)
		p.check(t, r.what+", again")
	}
}

// TestP9_1Keys: entries of one Value with unlike Ids stand beside each other, as do those of one Id with unlike Values.
func TestP9_1Keys(t *testing.T) {
	for _, l := range [][]api.Entry{
		{entry(5, 1, 3), entry(5, 2, 2), entry(5, 3, 1)},
		{entry(5, 1, 3), entry(6, 1, 2), entry(7, 1, 1)},
		{entry(5, 7, 1), entry(7, 5, 1), entry(5, 5, 1), entry(7, 7, 1)},
		{entry(5, 7, 1), entry(5, 1<<32+7, 1), entry(5, 2<<32+7, 1), entry(5, 1<<63+7, 1)},
		{entry(0, 0, 1), entry(0, 1, 1), entry(1, 0, 1), entry(top, 0, 1), entry(0, top, 1), entry(0, math.MaxUint64, 1)},
		{entry(0, 1<<32, 1), entry(1, 0, 1), entry(0, 0, 1), entry(1, 1<<32, 1)}, // alike, were the two laid into one number
		grid(),
		many(700),
	} {
		p := filled(t, l)
		p.check(t, "put")
		for i, e := range l {
			e.Record.Version, e.Record.Values = e.Record.Version+9, []uint32{uint32(i), 8}
			p.put(t, e)
			if i < 10 {
				p.check(t, "one made newer")
			}
		}
		p.check(t, "each made newer")
	}
}

// TestP9_1Key: a key is the entry's Value, and not its record's Values, whatever they are.
func TestP9_1Key(t *testing.T) {
	p := newPair()
	for i, values := range [][]uint32{nil, {}, {9}, {9, 5}, {5, 9, 9, 9, 9, 9, 9, 9, 9, 9}} {
		e := api.Entry{Value: 5, Record: api.Record{Id: 7, Version: uint64(i), Values: values}}
		p.put(t, e)
		p.check(t, "other values")
		p.get(t, api.Key{Value: 5, Id: 7})
		p.get(t, api.Key{Value: 9, Id: 7})
	}
	if p.shelf.Len() != 1 {
		t.Errorf("%d entries of one key", p.shelf.Len())
	}
}

// TestP9_1Live: what is Gone is there, but not alive, until a newer one that is alive is put in its place.
func TestP9_1Live(t *testing.T) {
	p := newPair()
	for i, r := range []struct {
		put        api.Entry
		size, live int
	}{
		{entry(5, 1, 1), 1, 1}, {gone(entry(5, 2, 1)), 2, 1}, {gone(entry(5, 1, 1)), 2, 0}, {entry(5, 1, 1), 2, 0},
		{entry(5, 2, 2), 2, 1}, {gone(entry(5, 2, 1)), 2, 1}, {entry(6, 2, 1), 3, 2}, {entry(5, 1, 2), 3, 3},
		{gone(entry(5, 1, 3)), 3, 2}, {gone(entry(5, 1, 4)), 3, 2}, {gone(entry(9, 9, 0)), 4, 2},
	} {
		p.put(t, r.put)
		if p.shelf.Len() != r.size || p.shelf.Live() != r.live {
			t.Errorf("the Put %d: Len %d, Live %d; want %d, %d", i, p.shelf.Len(), p.shelf.Live(), r.size, r.live)
		}
		p.check(t, "put")
	}
	p.cut(t, api.Span{From: 5, To: 6})
	if p.shelf.Len() != 3 || p.shelf.Live() != 1 {
		t.Errorf("Cut: Len %d, Live %d; want 3, 1", p.shelf.Len(), p.shelf.Live())
	}
}

// TestP9_1Full: there is room for MaxEntries, and for no more; but what is of a key that is there needs none.
func TestP9_1Full(t *testing.T) {
	l := many(api.MaxEntries)
	p := filled(t, l[:api.MaxEntries-1])
	p.put(t, l[0])
	p.put(t, l[api.MaxEntries-1])
	p.check(t, "full")
	for _, e := range []api.Entry{entry(3, 1, 1), gone(entry(3, 1, 1)), entry(3, 1, math.MaxUint64), {Value: 3}, entry(l[5].Value, l[5].Record.Id+1, 9), entry(l[5].Value+1, l[5].Record.Id, 9)} {
		if is, err := p.shelf.Put(e); is || err != api.ErrFull {
			t.Errorf("Put(%v) to a full one: %v, %d; want ErrFull", e, is, err)
		}
	}
	p.check(t, "full, and refused")
	for _, i := range []int{0, 1, 13, 5000, api.MaxEntries - 1} {
		e := entry(l[i].Value, l[i].Record.Id, 20)
		for _, r := range []struct {
			e    api.Entry
			want bool
		}{{e, true}, {e, false}, {l[i], false}, {gone(e), true}, {e, false}, {entry(e.Value, e.Record.Id, 21), true}, {gone(e), false}} {
			if is, err := p.shelf.Put(r.e); is != r.want || err != api.OK {
				t.Errorf("Put(%v) to a full one that has its key: %v, %d; want %v", r.e, is, err, r.want)
			}
			p.like.put(r.e)
		}
	}
	p.check(t, "full, and newer ones put")
	p.cut(t, api.Span{From: l[77].Value - 1, To: l[77].Value})
	p.put(t, entry(3, 1, 1))
	p.put(t, l[77])
	p.check(t, "full again")
	p.cut(t, api.Span{})
	p.check(t, "all cut")
	p.put(t, l[77])
	p.check(t, "one put where all were cut")
}

// TestP9_2Scan: five values, of two of which there are more than one.
func TestP9_2Scan(t *testing.T) {
	l := []api.Entry{
		entry(0, 8, 1), gone(entry(10, 3, 4)), entry(10, 1<<32, 1), entry(10, 1<<63, 1), entry(20, 5, 1),
		entry(top-1, 9, 1), entry(top, 2, 1), gone(entry(top, 4, 1)),
	}
	at := func(places ...int) []int { return places }
	for _, r := range []struct {
		what     string
		from, to uint32
		want     []int
	}{
		{"up to To", 5, 10, at(1, 2, 3)},
		{"not From", 10, 20, at(4)},
		{"not From, and none up to To", 10, 19, nil},
		{"one value", 9, 10, at(1, 2, 3)},
		{"one value, 0", top, 0, at(0)},
		{"one value, the greatest", top - 1, top, at(6, 7)},
		{"one value, none of it", 10, 11, nil},
		{"two values", 0, 20, at(1, 2, 3, 4)},
		{"from 0, which is not in it", 0, top, at(1, 2, 3, 4, 5, 6, 7)},
		{"round the end", 20, 0, at(5, 6, 7, 0)},
		{"round the end, up to a value", 15, 10, at(4, 5, 6, 7, 0, 1, 2, 3)},
		{"round the end, from the greatest", top, 10, at(0, 1, 2, 3)},
		{"round the end, of which nothing is left out but one", 10, 9, at(4, 5, 6, 7, 0)},
		{"from the greatest but one up to 0", top - 1, 0, at(6, 7, 0)},
		{"nothing, between", 11, 19, nil},
		{"nothing, at both ends", 20, top - 2, nil},
		{"the whole circle, from the greatest", top, top, at(0, 1, 2, 3, 4, 5, 6, 7)},
		{"the whole circle, from 0: it comes last", 0, 0, at(1, 2, 3, 4, 5, 6, 7, 0)},
		{"the whole circle, from a value that is there", 10, 10, at(4, 5, 6, 7, 0, 1, 2, 3)},
		{"the whole circle, from one that is not", 15, 15, at(4, 5, 6, 7, 0, 1, 2, 3)},
		{"the whole circle, from the greatest but one", top - 1, top - 1, at(6, 7, 0, 1, 2, 3, 4, 5)},
		{"the whole circle, from its half", 1 << 31, 1 << 31, at(5, 6, 7, 0, 1, 2, 3, 4)},
	} {
		span := api.Span{From: r.from, To: r.to}
		var want []api.Entry
		for _, i := range r.want {
			want = append(want, l[i])
		}
		for turn := range len(l) {
			p := filled(t, slices.Concat(l[turn:], l[:turn]))
			alike(t, r.what+": Scan", span, p.shelf.Scan(span), want)
			p.check(t, r.what+": scanned")
			alike(t, r.what+": Cut", span, p.shelf.Cut(span), want)
			p.like.cut(span)
			p.check(t, r.what+": cut")
			alike(t, r.what+": Scan of what was cut", span, p.shelf.Scan(span), nil)
		}
	}
}

// TestP9_2ScanAll asks for all spans from an edge to an edge.
func TestP9_2ScanAll(t *testing.T) {
	p, none := filled(t, grid()), newPair()
	for _, s := range spans() {
		p.scan(t, s)
		none.scan(t, s)
	}
	p.check(t, "scanned")
	none.check(t, "scanned")
}

// TestP9_2Order: of one Value by rising Id, however many there are, and in whatever order they came.
func TestP9_2Order(t *testing.T) {
	next := strewn(3)
	var l []api.Entry
	for i := range 900 {
		l = append(l, entry(uint32(i%3)*5, uint64(next(1<<31))<<33+uint64(i), uint64(next(5))))
	}
	for range 4 {
		p := filled(t, l)
		for _, s := range []api.Span{{From: top, To: top}, {From: 0, To: 0}, {From: 3, To: 0}, {From: 4, To: 5}, {From: 9, To: 5}} {
			p.scan(t, s)
		}
		for i := range l {
			k := next(i + 1)
			l[i], l[k] = l[k], l[i]
		}
	}
}

// TestP9_2Cut: what is cut is there no more, all else is, and what was cut may be put again, even if it is older.
func TestP9_2Cut(t *testing.T) {
	l := grid()
	full := filled(t, l)
	for i, s := range spans() {
		p := full.fork()
		p.cut(t, s)
		p.check(t, "cut")
		p.cut(t, s)
		p.check(t, "cut twice")
		p.put(t, entry(s.To, ids[i%len(ids)], 0))
		p.put(t, entry(s.From, ids[i%len(ids)], 0))
		p.check(t, "put where it was cut")
		p.join(t, l)
		p.check(t, "joined where it was cut")
		p.cut(t, api.Span{From: s.To, To: s.From})
		p.check(t, "the rest cut")
		p.cut(t, s)
		p.check(t, "all cut")
	}
	full.check(t, "forks of it cut")
}

func TestP9_2Join(t *testing.T) {
	is := func(version uint64, value uint32) api.Entry {
		return api.Entry{Value: 5, Record: api.Record{Id: 7, Version: version, Values: []uint32{value}}}
	}
	for _, r := range []struct {
		what        string
		there, join []api.Entry
		want        int
		left        []api.Entry
	}{
		{"nothing", nil, nil, 0, nil},
		{"an empty list", []api.Entry{is(1, 1)}, []api.Entry{}, 0, []api.Entry{is(1, 1)}},
		{"one", nil, []api.Entry{is(1, 1)}, 1, []api.Entry{is(1, 1)}},
		{"of one key, rising", nil, []api.Entry{is(1, 1), is(2, 2), is(3, 3)}, 3, []api.Entry{is(3, 3)}},
		{"of one key, falling", nil, []api.Entry{is(3, 3), is(2, 2), is(1, 1)}, 1, []api.Entry{is(3, 3)}},
		{"of one key, up and down", nil, []api.Entry{is(2, 1), is(1, 2), is(3, 3), is(2, 4), is(3, 5)}, 2, []api.Entry{is(3, 3)}},
		{"of one key, alike", nil, []api.Entry{is(2, 1), is(2, 2), is(2, 3)}, 1, []api.Entry{is(2, 1)}},
		{"of one key, Gone", nil, []api.Entry{is(2, 1), gone(is(2, 2)), is(2, 3), gone(is(2, 4))}, 2, []api.Entry{gone(is(2, 2))}},
		{"of one key, Gone, and newer", nil, []api.Entry{gone(is(2, 1)), is(3, 2), gone(is(2, 3))}, 2, []api.Entry{is(3, 2)}},
		{"older than what is there", []api.Entry{is(9, 9)}, []api.Entry{is(1, 1), is(8, 2), is(9, 3)}, 0, []api.Entry{is(9, 9)}},
		{"newer than what is there", []api.Entry{is(2, 9)}, []api.Entry{is(1, 1), is(3, 2), is(2, 3), is(4, 4)}, 2, []api.Entry{is(4, 4)}},
		{
			"of unlike keys", []api.Entry{entry(1, 1, 5), entry(2, 2, 5)},
			[]api.Entry{entry(1, 2, 1), entry(2, 1, 1), entry(1, 1, 4), entry(2, 2, 6), entry(1, 2, 0), entry(2, 1, 2)}, 4,
			[]api.Entry{entry(1, 1, 5), entry(2, 2, 6), entry(1, 2, 1), entry(2, 1, 2)},
		},
	} {
		p := filled(t, r.there)
		if got := p.shelf.Join(r.join); got != r.want {
			t.Errorf("%s: Join: %d; want %d", r.what, got, r.want)
		}
		p.like.list = r.left
		p.check(t, r.what)
		p.join(t, r.join)
		p.check(t, r.what+", joined again")
	}
}

// TestP9_2JoinFull: what finds no room is passed over; what is of a key that is there goes in, ahead of it and behind.
func TestP9_2JoinFull(t *testing.T) {
	l := many(api.MaxEntries + 3)
	p := filled(t, l[:api.MaxEntries-2])
	newest := func(i int) api.Entry { return entry(l[i].Value, l[i].Record.Id, 30) }
	p.join(t, []api.Entry{
		newest(0), entry(3, 1, 1), l[5], entry(3, 2, 1), // the two for which there is room
		entry(3, 3, 1), newest(6), gone(newest(6)), entry(3, 3, 2), l[0], entry(3, 1, 2), l[api.MaxEntries-1], newest(7), entry(3, 2, 0),
	})
	p.check(t, "joined")
	if _, is := p.shelf.Get(api.Key{Value: 3, Id: 3}); is || p.shelf.Len() != api.MaxEntries {
		t.Errorf("there is what found no room: %d", p.shelf.Len())
	}

	if got := p.shelf.Join(l[api.MaxEntries-2:]); got != 0 {
		t.Errorf("Join of what finds no room: %d", got)
	}
	p.check(t, "joined with what finds no room")
	p.join(t, []api.Entry{entry(3, 3, 1), entry(3, 4, 1), newest(9)})
	p.check(t, "joined with what mostly finds no room")

	other := pair{shelf.New(), &plain{}}
	if got := other.shelf.Join(append(l, newest(1), newest(api.MaxEntries+1), newest(2))); got != api.MaxEntries+2 {
		t.Errorf("Join of more than there is room for: %d; want %d", got, api.MaxEntries+2)
	}
	other.like.list = many(api.MaxEntries)
	other.like.list[1], other.like.list[2] = newest(1), newest(2)
	other.check(t, "joined with more than there is room for")
}

// deeds are such as change a shelf that has entries of grid.
func deeds() []func(*testing.T, pair) {
	put := func(e api.Entry) func(*testing.T, pair) {
		return func(t *testing.T, p pair) { t.Helper(); p.put(t, e) }
	}
	cut := func(from, to uint32) func(*testing.T, pair) {
		return func(t *testing.T, p pair) { t.Helper(); p.cut(t, api.Span{From: from, To: to}) }
	}
	join := func(l ...api.Entry) func(*testing.T, pair) {
		return func(t *testing.T, p pair) { t.Helper(); p.join(t, l) }
	}
	newer := grid()
	for i := range newer {
		newer[i].Record.Version += 50
	}
	return []func(*testing.T, pair){
		put(entry(3, 3, 3)), put(entry(0, 0, 99)), put(gone(entry(9, 1, 99))), put(entry(9, 1, 0)),
		cut(8, 9), cut(0, 0), cut(10, 9), cut(top-1, 0), cut(3, 8),
		join(), join(entry(3, 4, 1), entry(3, 4, 2), entry(10, 2, 99)), join(newer...), join(many(40)...),
	}
}

// TestP9_2Fork goes on with one while the other one is not changed, and the other way round.
func TestP9_2Fork(t *testing.T) {
	for _, n := range []int{0, 1, 2, 3, 20, len(grid())} {
		l := grid()[:n]
		for _, d := range deeds() {
			first := filled(t, l)
			second := first.fork()
			if first.shelf == second.shelf {
				t.Fatal("the fork is the same one")
			}
			second.check(t, "a fork")
			d(t, first)
			first.check(t, "what was forked, changed")
			second.check(t, "a fork, the other one changed")
			second.put(t, entry(9, 1, 7))
			first.check(t, "what was forked, its fork changed")
			d(t, second)
			d(t, second)
			second.check(t, "a fork, changed")
			first.check(t, "what was forked, its fork changed more")

			third := second.fork().fork()
			d(t, third)
			third.cut(t, api.Span{From: 5, To: 1})
			third.check(t, "a fork's fork's fork, changed")
			second.check(t, "a fork, its fork changed")
		}
	}
}

// TestP9_2ForkFull: forks are full by themselves.
func TestP9_2ForkFull(t *testing.T) {
	l := many(api.MaxEntries)
	first := filled(t, l[:api.MaxEntries-1])
	second := first.fork()
	first.put(t, entry(3, 3, 3))
	first.put(t, entry(3, 4, 3))
	second.put(t, entry(3, 4, 3))
	second.put(t, entry(3, 3, 3))
	third := first.fork()
	third.put(t, entry(3, 4, 3))
	third.cut(t, api.Span{From: 2, To: 3})
	third.put(t, entry(3, 4, 3))
	first.put(t, entry(3, 4, 3))
	first.check(t, "full")
	second.check(t, "full, a fork")
	third.check(t, "cut, and full again, a fork")
}

// TestP9_2Nil: a nil shelf has nothing, and Put alone tells so by an error.
func TestP9_2Nil(t *testing.T) {
	var s *shelf.Shelf
	for range 2 {
		for _, e := range append(grid(), api.Entry{}, gone(api.Entry{})) {
			if is, err := s.Put(e); is || err != api.ErrNil {
				t.Errorf("Put(%v) to nil: %v, %d; want ErrNil", e, is, err)
			}
			if got, is := s.Get(api.Key{Value: e.Value, Id: e.Record.Id}); is || !same(got, api.Entry{}) {
				t.Errorf("Get of nil: %v, %v; want nothing", got, is)
			}
		}
		for _, span := range spans() {
			if got := s.Scan(span); len(got) != 0 {
				t.Errorf("Scan of nil: %v", got)
			}
			if got := s.Cut(span); len(got) != 0 {
				t.Errorf("Cut of nil: %v", got)
			}
		}
		if got := s.Join(grid()); got != 0 {
			t.Errorf("Join to nil: %d", got)
		}
		if s.Join(nil) != 0 || s.Len() != 0 || s.Live() != 0 || s.Fork() != nil {
			t.Errorf("of nil: %d, %d, %v; want 0, 0, nil", s.Len(), s.Live(), s.Fork())
		}
	}
}

// TestP9_Everywhere makes strewn deeds, and holds the shelf against a plain one.
func TestP9_Everywhere(t *testing.T) {
	for seed := range uint64(40) {
		next := strewn(seed)
		all := []pair{newPair()}
		for range 250 {
			p := all[next(len(all))]
			switch next(12) {
			case 0, 1, 2, 3, 4:
				p.put(t, strewnEntry(next))
			case 5, 6:
				var l []api.Entry
				for range next(30) {
					l = append(l, strewnEntry(next))
				}
				p.join(t, l)
			case 7:
				from := edges[next(len(edges))]
				p.cut(t, api.Span{From: from, To: from + uint32(next(1<<30))})
			case 8:
				p.scan(t, strewnSpan(next))
			case 9:
				if next(4) == 0 {
					p.cut(t, strewnSpan(next))
				}
			case 10:
				p.get(t, api.Key{Value: edges[next(len(edges))], Id: ids[next(len(ids))]})
			case 11:
				if len(all) < 4 {
					all = append(all, p.fork())
				} else {
					all[next(len(all))] = p.fork()
				}
			}
			p.check(t, "so far")
		}
		for _, p := range all {
			p.check(t, "in the end")
		}
	}
}

// TestWhatFollows: in whatever order entries come, by Put or by Join, the newest of each key are there.
func TestWhatFollows(t *testing.T) {
	l := []api.Entry{entry(5, 1, 1), entry(5, 1, 2), gone(entry(5, 1, 2)), entry(5, 2, 1), gone(entry(5, 2, 1)), entry(6, 1, 3), entry(6, 1, 2)}
	newest := []api.Entry{gone(entry(5, 1, 2)), gone(entry(5, 2, 1)), entry(6, 1, 3)}
	span := api.Span{From: top, To: top}
	count := 0
	orders(l, 0, func(l []api.Entry) {
		count++
		one, other, both := shelf.New(), shelf.New(), shelf.New()
		for i, e := range l {
			one.Put(e)
			if i%2 == 0 {
				both.Put(e)
			} else {
				both.Join(l[i-1 : i+1])
			}
		}
		other.Join(l)
		both.Join(l[len(l)-1:])
		for _, s := range []*shelf.Shelf{one, other, both} {
			alike(t, "Scan", span, s.Scan(span), newest)
			if s.Len() != 3 || s.Live() != 1 {
				t.Errorf("Len %d, Live %d; want 3, 1", s.Len(), s.Live())
			}
		}
	})
	if count != 5040 {
		t.Errorf("%d orders", count)
	}
}

// orders tells each order of those from n on.
func orders(l []api.Entry, n int, tell func([]api.Entry)) {
	if n == len(l) {
		tell(l)
		return
	}
	for i := n; i < len(l); i++ {
		l[n], l[i] = l[i], l[n]
		orders(l, n+1, tell)
		l[n], l[i] = l[i], l[n]
	}
}

// TestR1: whatever an entry has, it is kept as it is; and a shelf that New did not make has nothing.
func TestR1(t *testing.T) {
	wild := []api.Entry{
		{}, {Gone: true}, entry(top, math.MaxUint64, math.MaxUint64), gone(entry(top, math.MaxUint64, 0)),
		{Value: 3, Record: api.Record{Id: 1 << 40, Values: make([]uint32, 100000)}},
		{Value: 3, Record: api.Record{Id: 16 << 32, Version: 1, Values: []uint32{4}}},
		{Value: 3, Record: api.Record{Id: 1, Version: 1, Values: make([]uint32, 0, 5)}},
	}
	for _, p := range []pair{newPair(), {&shelf.Shelf{}, &plain{}}} {
		p.check(t, "nothing")
		for _, s := range spans() {
			p.fork().cut(t, s)
		}
		p.fork().join(t, wild)
		for _, e := range wild {
			p.put(t, e)
			p.check(t, "put")
		}
		p.join(t, wild)
		for _, s := range spans() {
			p.scan(t, s)
			other := p.fork()
			other.cut(t, s)
			other.join(t, wild)
			other.check(t, "cut, and joined")
		}
		p.check(t, "asked")
	}
}

// TestR2Apart: what is done with one does not touch another one; a plain copy is another one.
func TestR2Apart(t *testing.T) {
	for _, n := range []int{0, 1, 2, 30, len(grid())} {
		l := grid()[:n]
		for _, d := range deeds() {
			one := filled(t, l)
			two, three, was := one.plainCopy(), one.plainCopy(), one.like.list
			d(t, one)
			one.check(t, "what was copied, changed")
			two.check(t, "a plain copy, the other one changed")
			two.put(t, entry(9, 1, 7))
			d(t, two)
			one.check(t, "what was copied, changed, its copy changed")
			two.check(t, "a plain copy, changed")
			three.check(t, "another plain copy")
			*one.shelf, one.like.list = *three.shelf, was
			one.put(t, entry(9, 1, 8))
			d(t, one)
			one.check(t, "what was set back, changed")
			three.check(t, "what it was set back to")
		}
	}
}

// TestR2Together: forks and copies may be changed at the same time.
func TestR2Together(t *testing.T) {
	p := filled(t, grid())
	p.cut(t, api.Span{From: 9, To: 10})
	var jobs sync.WaitGroup
	for i := range 8 {
		forks := []pair{p.fork(), p.plainCopy()}
		jobs.Go(func() {
			for _, one := range forks {
				for _, d := range deeds()[i%4:] {
					d(t, one)
					one.scan(t, api.Span{From: 1, To: 0})
				}
				p.shelf.Fork().Cut(api.Span{})
			}
		})
	}
	jobs.Wait()
	p.check(t, "what was forked and copied")
}

// TestR2Reading: who only asks changes nothing, and is answered alike.
func TestR2Reading(t *testing.T) {
	l := many(500)
	p := filled(t, l)
	slices.Reverse(l)
	other := filled(t, l)
	for range 3 {
		for _, s := range spans() {
			alike(t, "Scan of what came the other way round", s, other.shelf.Scan(s), p.shelf.Scan(s))
		}
		p.shelf.Fork()
		p.check(t, "asked again")
	}
}

// TestR3In: what is handed in is not changed and not kept, nor is the room behind its end.
func TestR3In(t *testing.T) {
	for _, n := range []int{0, 1, 2, 8, 100} {
		room := append(slices.Repeat([]uint32{5}, n), 1, 2, 3)
		kept := slices.Clone(room)
		put := api.Entry{Value: 5, Record: api.Record{Id: 7, Version: 1, Values: room[:n]}}
		p := newPair()
		p.put(t, put)
		put.Record.Version = 2
		p.put(t, put) // and in the other one's place
		put.Record.Version = 1
		p.put(t, put) // refused
		if !slices.Equal(room, kept) {
			t.Errorf("Put changed %d values, or the room behind", n)
		}
		spoil(room)
		p.check(t, "what was put, spoilt")

		rooms := [][]uint32{slices.Clone(kept), slices.Clone(kept)}
		l := []api.Entry{entry(9, 9, 9), entry(8, 8, 8), entry(7, 7, 7)}
		l[0].Record.Values, l[1].Record.Values = rooms[0][:n], rooms[1][:n]
		was := deepAll(l)
		p.join(t, l[:2])
		p.join(t, l[:2])
		alike(t, "Join changed its list, or the room behind", api.Span{}, l, was)
		if !slices.Equal(rooms[0], kept) || !slices.Equal(rooms[1], kept) {
			t.Errorf("Join changed %d values, or the room behind", n)
		}
		fork := p.fork()
		spoilAll(l)
		spoil(rooms[0])
		spoil(rooms[1])
		p.check(t, "what was joined, spoilt")
		fork.check(t, "what was joined, spoilt, of a fork")
	}
}

// TestR3Out: who writes into what is told, and into the room behind its end, changes nothing else.
func TestR3Out(t *testing.T) {
	l := grid()
	for i := range l {
		l[i].Record.Values = slices.Repeat([]uint32{uint32(i)}, i%7)
	}
	p := filled(t, l)
	fork := p.fork()
	span := api.Span{From: top, To: top}
	for _, e := range l {
		k := api.Key{Value: e.Value, Id: e.Record.Id}
		told, _ := p.shelf.Get(k)
		again, _ := p.shelf.Get(k)
		spoil(told.Record.Values)
		if !same(again, e) {
			t.Errorf("what Get told ahead of that was changed: %v; want %v", again, e)
		}
	}
	p.check(t, "what Get told, spoilt")
	told, again := p.shelf.Scan(span), p.shelf.Scan(span)
	spoilAll(told)
	alike(t, "what was told ahead of that", span, again, p.like.scan(span))
	p.check(t, "what Scan told, spoilt")
	half := api.Span{From: 9, To: top - 1}
	told = p.shelf.Cut(half)
	alike(t, "Cut", half, told, p.like.cut(half))
	fork.check(t, "a fork, of what was cut")
	alone(t, told)
	spoilAll(told)
	p.check(t, "what Cut told, spoilt")
	fork.check(t, "what Cut told, spoilt, of a fork")
	alone(t, again)
	alone(t, fork.shelf.Scan(span))
}

// alone spoils the Values of one after the other: those behind it stay as they are.
func alone(t *testing.T, l []api.Entry) {
	t.Helper()
	was := deepAll(l)
	for i := range l {
		if !same(l[i], was[i]) {
			t.Fatalf("two lists of one answer share room: %v; want %v", l[i], was[i])
		}
		spoil(l[i].Record.Values)
	}
}

// TestR4: where there is no such entry, what is told is zero.
func TestR4(t *testing.T) {
	p := filled(t, []api.Entry{gone(entry(5, 7, 3))})
	for _, k := range []api.Key{{}, {Value: 5}, {Id: 7}, {Value: 7, Id: 5}, {Value: 5, Id: 8}, {Value: 4, Id: 7}, {Value: 5, Id: 1<<32 + 7}} {
		got, is := p.shelf.Get(k)
		if is || got.Value != 0 || got.Gone || got.Record.Id != 0 || got.Record.Version != 0 || len(got.Record.Values) != 0 {
			t.Errorf("Get(%v): %v, %v; want nothing", k, got, is)
		}
	}
	if got, is := p.shelf.Get(api.Key{Value: 5, Id: 7}); !is || !same(got, gone(entry(5, 7, 3))) {
		t.Errorf("Get of one that is Gone: %v, %v", got, is)
	}
}

// TestR5: of a key that is there, a full shelf is as any other one; and a nil one is not full.
func TestR5(t *testing.T) {
	l := many(api.MaxEntries)
	p := filled(t, l)
	for _, i := range []int{0, 3000, api.MaxEntries - 1} {
		for _, e := range []api.Entry{l[i], entry(l[i].Value, l[i].Record.Id, 0)} {
			if is, err := p.shelf.Put(e); is || err != api.OK {
				t.Errorf("Put of an older one to a full shelf: %v, %d; want false, OK", is, err)
			}
		}
	}
	var none *shelf.Shelf
	none.Join(l)
	if is, err := none.Put(l[0]); is || err != api.ErrNil {
		t.Errorf("Put to nil: %v, %d; want false, ErrNil", is, err)
	}
}
