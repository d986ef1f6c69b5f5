package gather_test

import (
	"math"
	"slices"
	"sync"
	"testing"

	"petasos/api"
	"petasos/gather"
)

// TestExample is the chapter's: Add of nothing, whatever is asked for, and whatever is there.
func TestExample(t *testing.T) {
	for _, p := range []pair{newPair(), newPair(anything), newPair(nothing), newPair(anything, between(5, 9)), filled(t, rec(1, 1, 1)), filled(t, grid()...)} {
		for _, l := range [][]api.Record{nil, {}, make([]api.Record, 0, 5)} {
			if got := p.gather.Add(l); got != 0 {
				t.Errorf("Add of nothing: %d; want 0", got)
			}
			p.check(t, "nothing added")
		}
	}
}

func TestP18_1New(t *testing.T) {
	for _, b := range [][]api.Range{nil, {}, {anything}, {nothing}, {{}}, {anything, between(5, 9)}, slices.Repeat([]api.Range{anything}, 100)} {
		g := gather.New(b)
		if g == nil {
			t.Fatalf("New(%v): nil", b)
		}
		if got := g.All(); len(got) != 0 {
			t.Errorf("All of a new one: %v; want none", got)
		}
		for _, n := range []int{math.MinInt, -1, 0, 1, 100, math.MaxInt} {
			for _, after := range ids {
				for _, first := range []bool{true, false} {
					if got, more := g.Page(after, first, n); len(got) != 0 || more {
						t.Errorf("Page(%d, %v, %d) of a new one: %v, %v; want none, false", after, first, n, got, more)
					}
				}
			}
		}
	}
	one, other := gather.New([]api.Range{anything}), gather.New([]api.Range{anything})
	one.Add([]api.Record{rec(1, 1, 1)})
	if got := other.All(); len(got) != 0 {
		t.Errorf("All of another new one: %v; want none", got)
	}
}

// TestP18_1Add adds records that all match to such as are there.
func TestP18_1Add(t *testing.T) {
	all := func(l ...api.Record) []api.Record { return l }
	for _, r := range []struct {
		what       string
		there, add []api.Record
		want       int
		left       []api.Record
	}{
		{"one", nil, all(rec(5, 1, 1)), 1, all(rec(5, 1, 1))},
		{"several, rising", nil, all(rec(5, 1, 1), rec(6, 1, 2), rec(7, 1, 3)), 3, all(rec(5, 1, 1), rec(6, 1, 2), rec(7, 1, 3))},
		{"several, falling", nil, all(rec(7, 1, 3), rec(6, 1, 2), rec(5, 1, 1)), 3, all(rec(5, 1, 1), rec(6, 1, 2), rec(7, 1, 3))},
		{"several, up and down", nil, all(rec(6, 1, 2), rec(7, 1, 3), rec(5, 1, 1)), 3, all(rec(5, 1, 1), rec(6, 1, 2), rec(7, 1, 3))},
		{"one behind", all(rec(5, 1, 1)), all(rec(6, 1, 2)), 1, all(rec(5, 1, 1), rec(6, 1, 2))},
		{"one ahead", all(rec(5, 1, 1)), all(rec(4, 1, 2)), 1, all(rec(4, 1, 2), rec(5, 1, 1))},
		{"some between, ahead and behind", all(rec(3, 1, 1), rec(5, 1, 1)), all(rec(6, 1, 2), rec(4, 1, 2), rec(2, 1, 2)), 3, all(rec(2, 1, 2), rec(3, 1, 1), rec(4, 1, 2), rec(5, 1, 1), rec(6, 1, 2))},
		{"of alike values, and versions", all(rec(5, 1, 1)), all(rec(6, 1, 1), rec(4, 1, 1)), 2, all(rec(4, 1, 1), rec(5, 1, 1), rec(6, 1, 1))},
		{"an id that is another one's version", all(rec(5, 3, 1)), all(rec(3, 5, 2)), 1, all(rec(3, 5, 2), rec(5, 3, 1))},

		{"greater", all(rec(5, 2, 1)), all(rec(5, 3, 2)), 1, all(rec(5, 3, 2))},
		{"far greater", all(rec(5, 2, 1)), all(rec(5, last, 2)), 1, all(rec(5, last, 2))},
		{"the same", all(rec(5, 2, 1)), all(rec(5, 2, 2)), 0, all(rec(5, 2, 1))},
		{"the same, and alike", all(rec(5, 2, 1)), all(rec(5, 2, 1)), 0, all(rec(5, 2, 1))},
		{"lesser", all(rec(5, 2, 1)), all(rec(5, 1, 2)), 0, all(rec(5, 2, 1))},
		{"far lesser", all(rec(5, last, 1)), all(rec(5, 0, 2)), 0, all(rec(5, last, 1))},
		{"greater by high bits", all(rec(5, top, 1)), all(rec(5, 1<<32, 2)), 1, all(rec(5, 1<<32, 2))},
		{"lesser by high bits", all(rec(5, 1<<32, 1)), all(rec(5, top, 2)), 0, all(rec(5, 1<<32, 1))},
		{"greater by the highest bit", all(rec(5, 1<<63-1, 1)), all(rec(5, 1<<63, 2)), 1, all(rec(5, 1<<63, 2))},
		{"lesser by the highest bit", all(rec(5, 1<<63, 1)), all(rec(5, 1<<63-1, 2)), 0, all(rec(5, 1<<63, 1))},
		{"the greatest but one", all(rec(5, last, 1)), all(rec(5, last-1, 2)), 0, all(rec(5, last, 1))},
		{"the greatest twice", all(rec(5, last, 1)), all(rec(5, last, 2)), 0, all(rec(5, last, 1))},
		{"of version 0, where there is none", nil, all(rec(5, 0, 1)), 1, all(rec(5, 0, 1))},
		{"of version 0 twice", all(rec(5, 0, 1)), all(rec(5, 0, 2)), 0, all(rec(5, 0, 1))},
		{"greater than version 0", all(rec(5, 0, 1)), all(rec(5, 1, 2)), 1, all(rec(5, 1, 2))},

		{"in one list, rising", nil, all(rec(5, 1, 1), rec(5, 2, 2)), 2, all(rec(5, 2, 2))},
		{"in one list, rising, three of them", nil, all(rec(5, 1, 1), rec(5, 2, 2), rec(5, 3, 3)), 3, all(rec(5, 3, 3))},
		{"in one list, the same", nil, all(rec(5, 2, 1), rec(5, 2, 2)), 1, all(rec(5, 2, 1))},
		{"in one list, falling", nil, all(rec(5, 2, 1), rec(5, 1, 2)), 1, all(rec(5, 2, 1))},
		{"in one list, falling, three of them", nil, all(rec(5, 3, 1), rec(5, 2, 2), rec(5, 1, 3)), 1, all(rec(5, 3, 1))},
		{"in one list, up and down", nil, all(rec(5, 2, 1), rec(5, 1, 2), rec(5, 4, 3), rec(5, 3, 4), rec(5, 4, 5), rec(5, 5, 6)), 3, all(rec(5, 5, 6))},
		{"in one list, of version 0 first", nil, all(rec(5, 0, 1), rec(5, 0, 2), rec(5, 1, 3)), 2, all(rec(5, 1, 3))},
		{"in one list, of what is there", all(rec(5, 3, 1)), all(rec(5, 1, 2), rec(5, 3, 3), rec(5, 4, 4), rec(5, 2, 5), rec(5, 6, 6)), 2, all(rec(5, 6, 6))},
		{"in one list, rising, below what is there", all(rec(5, 9, 1)), all(rec(5, 1, 2), rec(5, 2, 3), rec(5, 9, 4)), 0, all(rec(5, 9, 1))},
		{"in one list, rising up to what is there, and above", all(rec(5, 2, 1)), all(rec(5, 1, 2), rec(5, 2, 3), rec(5, 3, 4)), 1, all(rec(5, 3, 4))},

		{"far apart, rising", nil, all(rec(5, 1, 1), rec(4, 1, 1), rec(6, 1, 1), rec(9, 1, 1), rec(5, 2, 2)), 5, all(rec(4, 1, 1), rec(5, 2, 2), rec(6, 1, 1), rec(9, 1, 1))},
		{"far apart, falling", nil, all(rec(5, 2, 1), rec(4, 1, 1), rec(6, 1, 1), rec(9, 1, 1), rec(5, 1, 2)), 4, all(rec(4, 1, 1), rec(5, 2, 1), rec(6, 1, 1), rec(9, 1, 1))},
		{"far apart, the same", nil, all(rec(5, 2, 1), rec(4, 1, 1), rec(6, 1, 1), rec(9, 1, 1), rec(5, 2, 2)), 4, all(rec(4, 1, 1), rec(5, 2, 1), rec(6, 1, 1), rec(9, 1, 1))},
		{"of several ids, turn by turn", all(rec(5, 2, 1), rec(6, 3, 1)), all(rec(6, 2, 2), rec(5, 3, 2), rec(6, 4, 3), rec(5, 1, 3), rec(7, 1, 4), rec(5, 4, 4), rec(7, 1, 5)), 4, all(rec(5, 4, 4), rec(6, 4, 3), rec(7, 1, 4))},
		{"the first of those that are there", all(rec(5, 2, 1), rec(6, 2, 1), rec(7, 2, 1)), all(rec(5, 3, 2)), 1, all(rec(5, 3, 2), rec(6, 2, 1), rec(7, 2, 1))},
		{"the last of those that are there", all(rec(5, 2, 1), rec(6, 2, 1), rec(7, 2, 1)), all(rec(7, 3, 2)), 1, all(rec(5, 2, 1), rec(6, 2, 1), rec(7, 3, 2))},
		{"one between those that are there", all(rec(5, 2, 1), rec(6, 2, 1), rec(7, 2, 1)), all(rec(6, 3, 2)), 1, all(rec(5, 2, 1), rec(6, 3, 2), rec(7, 2, 1))},
		{"all that are there", all(rec(5, 2, 1), rec(6, 2, 1), rec(7, 2, 1)), all(rec(7, 3, 2), rec(6, 3, 2), rec(5, 3, 2)), 3, all(rec(5, 3, 2), rec(6, 3, 2), rec(7, 3, 2))},

		{"id 0 alone", nil, all(rec(0, 1, 1)), 1, all(rec(0, 1, 1))},
		{"id 0, of version 0", nil, all(rec(0, 0, 0)), 1, all(rec(0, 0, 0))},
		{"id 0 behind others", all(rec(5, 1, 1)), all(rec(0, 1, 2)), 1, all(rec(0, 1, 2), rec(5, 1, 1))},
		{"id 0, greater", all(rec(0, 1, 1), rec(5, 1, 1)), all(rec(0, 2, 2)), 1, all(rec(0, 2, 2), rec(5, 1, 1))},
		{"the greatest id alone", nil, all(rec(last, 1, 1)), 1, all(rec(last, 1, 1))},
		{"the greatest id ahead of others", all(rec(last, 1, 1)), all(rec(5, 1, 2), rec(last-1, 1, 2)), 2, all(rec(5, 1, 2), rec(last-1, 1, 2), rec(last, 1, 1))},
		{"the greatest id, greater", all(rec(last, 1, 1), rec(5, 1, 1)), all(rec(last, 2, 2)), 1, all(rec(5, 1, 1), rec(last, 2, 2))},
		{"both ends, the greatest first", nil, all(rec(last, 1, 1), rec(0, 1, 2)), 2, all(rec(0, 1, 2), rec(last, 1, 1))},
		{"both ends, the least first", nil, all(rec(0, 1, 2), rec(last, 1, 1)), 2, all(rec(0, 1, 2), rec(last, 1, 1))},
		{"ids that differ in high bits alone", all(rec(5, 9, 1)), all(rec(1<<32+5, 1, 2), rec(1<<63+5, 1, 3), rec(2<<32+5, 1, 4)), 3, all(rec(5, 9, 1), rec(1<<32+5, 1, 2), rec(2<<32+5, 1, 4), rec(1<<63+5, 1, 3))},
		{"ids to either side of the highest bit", nil, all(rec(1<<63, 1, 1), rec(1<<63-1, 1, 2), rec(1<<63+1, 1, 3)), 3, all(rec(1<<63-1, 1, 2), rec(1<<63, 1, 1), rec(1<<63+1, 1, 3))},
		{"ids that are no client's", nil, all(rec(16<<32, 1, 1), rec(1<<40, 1, 2)), 2, all(rec(16<<32, 1, 1), rec(1<<40, 1, 2))},
	} {
		p := filled(t, r.there...)
		if got := p.gather.Add(r.add); got != r.want {
			t.Errorf("%s: Add: %d; want %d", r.what, got, r.want)
		}
		p.like.list = r.left
		p.check(t, r.what)
		p.add(t, r.left...)
		p.check(t, r.what+", and what is there again")

		p = filled(t, r.there...)
		n := 0
		for i := range r.add {
			n += p.gather.Add(r.add[i : i+1])
		}
		if n != r.want {
			t.Errorf("%s: Add of one after the other: %d; want %d", r.what, n, r.want)
		}
		p.like.list = r.left
		p.check(t, r.what+", one after the other")
		if got := p.gather.All(); !alike(got, r.left) {
			t.Errorf("%s: All: %v; want %v", r.what, got, r.left)
		}
	}
}

// TestP18_1Match adds to each box records of unlike ids: those at these places are in.
func TestP18_1Match(t *testing.T) {
	l := []api.Record{
		rec(0, 1), rec(1, 1, 0), rec(2, 1, 4), rec(3, 1, 5), rec(4, 1, 9), rec(5, 1, 10), rec(6, 1, top), rec(7, 1, 5, 5), rec(8, 1, 5, 20),
		rec(9, 1, 20, 5), rec(10, 1, 5, 5, 5), rec(11, 1, slices.Repeat([]uint32{5}, 100)...),
	}
	box := func(b ...api.Range) []api.Range { return b }
	at := func(places ...uint64) []uint64 { return places }
	for _, r := range []struct {
		what string
		box  []api.Range
		want []uint64
	}{
		{"nil", nil, at(0)},
		{"empty", box(), at(0)},
		{"empty, with room", make([]api.Range, 0, 5), at(0)},
		{"any", box(anything), at(1, 2, 3, 4, 5, 6)},
		{"any, whatever Lo and Hi are", box(api.Range{Kind: api.Any, Lo: 6, Hi: 7}), at(1, 2, 3, 4, 5, 6)},
		{"between", box(between(5, 9)), at(3, 4)},
		{"one value", box(between(5, 5)), at(3)},
		{"one value, 0", box(between(0, 0)), at(1)},
		{"one value, the greatest", box(between(top, top)), at(6)},
		{"round the end", box(between(10, 4)), at(1, 2, 5, 6)},
		{"round the end, from the greatest to 0", box(between(top, 0)), at(1, 6)},
		{"all values, from 0 on", box(between(0, top)), at(1, 2, 3, 4, 5, 6)},
		{"all values, from 5 on", box(between(5, 4)), at(1, 2, 3, 4, 5, 6)},
		{"nothing", box(nothing), nil},
		{"nothing, whatever Lo and Hi are", box(api.Range{Kind: api.Nothing, Lo: 0, Hi: top}), nil},
		{"no kind", box(api.Range{}), nil},
		{"no kind, with Lo and Hi", box(api.Range{Lo: 0, Hi: top}), nil},
		{"no kind, above", box(api.Range{Kind: 4, Hi: top}), nil},
		{"no kind, below", box(api.Range{Kind: -1, Hi: top}), nil},
		{"no kind, but by its lowest byte", box(api.Range{Kind: 256 + api.Any}), nil},
		{"two, any", box(anything, anything), at(7, 8, 9)},
		{"two", box(between(5, 9), between(20, 30)), at(8)},
		{"two, turned round", box(between(20, 30), between(5, 9)), at(9)},
		{"two, of which one is any", box(between(5, 9), anything), at(7, 8)},
		{"two, of which one has nothing", box(anything, nothing), nil},
		{"two, of which the first one has nothing", box(nothing, anything), nil},
		{"two, that none matches", box(between(20, 30), between(20, 30)), nil},
		{"three", box(between(5, 5), anything, between(0, 9)), at(10)},
		{"more than MaxAttrs", slices.Repeat(box(anything), 100), at(11)},
		{"more than MaxAttrs, one of which has nothing", append(slices.Repeat(box(anything), 99), nothing), nil},
		{"nine", slices.Repeat(box(anything), 9), nil},
	} {
		for _, turn := range []int{0, 1, 5, len(l) - 1} {
			p := newPair(r.box...)
			if got := p.gather.Add(slices.Concat(l[turn:], l[:turn])); got != len(r.want) {
				t.Errorf("%s: Add: %d; want %d", r.what, got, len(r.want))
			}
			if got := idsOf(p.gather.All()); !slices.Equal(got, r.want) {
				t.Errorf("%s: %v are in; want %v", r.what, got, r.want)
			}
			p.like.add(l)
			p.check(t, r.what)
			for i := range l {
				p.add(t, l[i])
				newer := l[i]
				newer.Version++
				p.add(t, newer)
			}
			p.check(t, r.what+", newer ones")
		}
	}
}

// TestP18_1MatchNot: one that does not match plays no part, whatever its Version: it is not in, it keeps none out, and
// what is there stays.
func TestP18_1MatchNot(t *testing.T) {
	is := func(version uint64) api.Record { return rec(5, version, 7) }
	for _, not := range []func(version uint64) api.Record{
		func(version uint64) api.Record { return rec(5, version, 10) },
		func(version uint64) api.Record { return rec(5, version, 4) },
		func(version uint64) api.Record { return rec(5, version) },
		func(version uint64) api.Record { return rec(5, version, 7, 7) },
	} {
		for _, r := range []struct {
			what string
			l    []api.Record
			want int
			left []api.Record
		}{
			{"alone", []api.Record{not(1)}, 0, nil},
			{"several", []api.Record{not(1), not(0), not(2), not(last)}, 0, nil},
			{"newer", []api.Record{is(2), not(3)}, 1, []api.Record{is(2)}},
			{"newer, by far", []api.Record{is(2), not(last)}, 1, []api.Record{is(2)}},
			{"newer, ahead", []api.Record{not(3), is(2)}, 1, []api.Record{is(2)}},
			{"newest, ahead", []api.Record{not(last), is(2)}, 1, []api.Record{is(2)}},
			{"as new", []api.Record{is(2), not(2)}, 1, []api.Record{is(2)}},
			{"as new, ahead", []api.Record{not(2), is(2)}, 1, []api.Record{is(2)}},
			{"older", []api.Record{is(2), not(1)}, 1, []api.Record{is(2)}},
			{"older, ahead", []api.Record{not(1), is(2)}, 1, []api.Record{is(2)}},
			{"between older and newer", []api.Record{is(2), not(4), is(3)}, 2, []api.Record{is(3)}},
			{"between newer and older", []api.Record{is(3), not(4), is(2)}, 1, []api.Record{is(3)}},
			{"around", []api.Record{not(9), is(2), not(9), is(2), is(4), not(5), is(3)}, 2, []api.Record{is(4)}},
			{"of version 0", []api.Record{not(1), is(0), not(1)}, 1, []api.Record{is(0)}},
			{"beside others", []api.Record{rec(4, 1, 8), not(1), rec(6, 1, 9), not(2)}, 2, []api.Record{rec(4, 1, 8), rec(6, 1, 9)}},
		} {
			p, single := newPair(between(5, 9)), newPair(between(5, 9))
			n := 0
			for i := range r.l {
				n += single.gather.Add(r.l[i : i+1])
			}
			if got := p.gather.Add(r.l); got != r.want || n != r.want {
				t.Errorf("%s, %v: Add: %d, one after the other: %d; want %d", r.what, not(0).Values, got, n, r.want)
			}
			p.like.list, single.like.list = r.left, r.left
			p.check(t, r.what)
			single.check(t, r.what+", one after the other")
		}
	}
}

// TestP18_1Values: what is there has the values of the newest, whatever the other one's are.
func TestP18_1Values(t *testing.T) {
	p := newPair(between(3, 9), anything)
	for i, values := range [][]uint32{{3, 1}, {9, 2}, {2, 3}, {4}, {4, 4, 4}, {5, 5}, {5, 5}, nil, {6, top}} {
		p.add(t, rec(7, uint64(i), values...), rec(8, uint64(20-i), values...))
		p.check(t, "values")
	}
	if got, want := p.gather.All(), []api.Record{rec(7, 8, 6, top), rec(8, 20, 3, 1)}; !alike(got, want) {
		t.Errorf("All: %v; want %v", got, want)
	}
}

// TestP18_1Order: All rises, in whatever order records came, in one call or in several.
func TestP18_1Order(t *testing.T) {
	l := grid()
	for turn := range uint64(60) {
		next := strewn(turn)
		l = mixed(l, next)
		p := newPair(anything)
		for rest := l; len(rest) > 0; {
			n := 1 + next(len(rest))
			p.add(t, rest[:n]...)
			rest = rest[n:]
		}
		p.check(t, "strewn ids")
		if got := idsOf(p.gather.All()); !slices.Equal(got, ids) {
			t.Errorf("All: %v; want %v", got, ids)
		}
	}
}

// TestP18_1Many: no limit plays a part, neither how many there are nor how many are added.
func TestP18_1Many(t *testing.T) {
	l := many(2*api.MaxRecords + 1)
	p := newPair(anything)
	if got := p.gather.Add(l); got != len(l) {
		t.Errorf("Add of %d records: %d", len(l), got)
	}
	p.like.list = l
	p.check(t, "in one call")
	if got := p.gather.Add(l); got != 0 {
		t.Errorf("Add of %d records that are there: %d", len(l), got)
	}

	p = newPair(anything)
	for i := 0; i < len(l); i += 100 {
		if part := l[i:min(i+100, len(l))]; p.gather.Add(part) != len(part) {
			t.Errorf("Add of %d records from %d on: not as many", len(part), i)
		}
	}
	p.like.list = slices.Clone(l)
	p.check(t, "in many calls")
	var newer []api.Record
	for i := range l {
		if i%50 == 0 {
			l[i].Version++
			newer = append(newer, l[i])
			p.like.list[i].Version++
		}
	}
	if got := p.gather.Add(l); got != len(newer) {
		t.Errorf("Add of %d records, of which %d are newer: %d", len(l), len(newer), got)
	}
	p.check(t, "newer ones")
}

// TestP18_1Single adds thousands of records one after the other.
func TestP18_1Single(t *testing.T) {
	l := many(4000)
	rising := slices.Clone(l)
	for i := range rising {
		rising[i].Id = uint64(i)
	}
	falling := slices.Clone(rising)
	slices.Reverse(falling)
	for _, l := range [][]api.Record{l, rising, falling} {
		p := newPair(anything)
		for i := range l {
			if p.gather.Add(l[i:i+1]) != 1 || p.gather.Add(l[i/2:i/2+1]) != 0 {
				t.Fatalf("Add of the record %d, and of the one at %d again: not 1, 0", i, i/2)
			}
		}
		p.like.list = l
		p.check(t, "one after the other")
	}
}

// TestP18_1Page: five records.
func TestP18_1Page(t *testing.T) {
	p := newPair(anything)
	p.add(t, rec(last, 1, 1), rec(9, 1, 2), rec(0, 1, 3), rec(1<<32, 1, 4), rec(5, 1, 5))
	at := func(ids ...uint64) []uint64 { return ids }
	for _, r := range []struct {
		what  string
		after uint64
		first bool
		n     int
		want  []uint64
		more  bool
	}{
		{"first, as many as there are", 0, true, 5, at(0, 5, 9, 1<<32, last), false},
		{"first, one more", 0, true, 6, at(0, 5, 9, 1<<32, last), false},
		{"first, one less", 0, true, 4, at(0, 5, 9, 1<<32), true},
		{"first, one", 0, true, 1, at(0), true},
		{"first, two", 0, true, 2, at(0, 5), true},
		{"first, 0", 0, true, 0, nil, true},
		{"first, below 0", 0, true, -1, nil, true},
		{"first, as many below 0", 0, true, -5, nil, true},
		{"first, the least", 0, true, math.MinInt, nil, true},
		{"first, the greatest", 0, true, math.MaxInt, at(0, 5, 9, 1<<32, last), false},
		{"first, whatever after is: one that is there", 9, true, 2, at(0, 5), true},
		{"first, whatever after is: one that is not", 7, true, 5, at(0, 5, 9, 1<<32, last), false},
		{"first, whatever after is: the greatest", last, true, 1, at(0), true},
		{"first, whatever after is: the greatest, all", last, true, 5, at(0, 5, 9, 1<<32, last), false},
		{"first, whatever after is: the greatest, 0", last, true, 0, nil, true},

		{"behind 0, as many as there are", 0, false, 4, at(5, 9, 1<<32, last), false},
		{"behind 0, one more", 0, false, 5, at(5, 9, 1<<32, last), false},
		{"behind 0, one less", 0, false, 3, at(5, 9, 1<<32), true},
		{"behind 0, one", 0, false, 1, at(5), true},
		{"behind 0, 0", 0, false, 0, nil, true},
		{"behind 0, below 0", 0, false, -1, nil, true},
		{"behind one that is there, as many as there are", 5, false, 3, at(9, 1<<32, last), false},
		{"behind one that is there, one more", 5, false, 4, at(9, 1<<32, last), false},
		{"behind one that is there, one less", 5, false, 2, at(9, 1<<32), true},
		{"behind one that is there, the greatest", 5, false, math.MaxInt, at(9, 1<<32, last), false},
		{"behind one that is there, the least", 5, false, math.MinInt, nil, true},
		{"behind one that is not, as many as there are", 7, false, 3, at(9, 1<<32, last), false},
		{"behind one that is not, one less", 7, false, 2, at(9, 1<<32), true},
		{"behind one that is not, one more", 7, false, 4, at(9, 1<<32, last), false},
		{"behind one that is not, just ahead of one", 8, false, 1, at(9), true},
		{"behind one that is not, just behind one", 10, false, 1, at(1 << 32), true},
		{"behind one that is not, by its low bits the least", 1<<32 + 1, false, 2, at(last), false},
		{"behind one that is not, ahead of one by high bits", top, false, 1, at(1 << 32), true},
		{"behind the last but one, one", 1 << 32, false, 1, at(last), false},
		{"behind the last but one, two", 1 << 32, false, 2, at(last), false},
		{"behind the last but one, 0", 1 << 32, false, 0, nil, true},
		{"just ahead of the greatest, one", last - 1, false, 1, at(last), false},
		{"just ahead of the greatest, 0", last - 1, false, 0, nil, true},
		{"just ahead of the greatest, below 0", last - 1, false, -7, nil, true},
		{"behind the greatest, 0", last, false, 0, nil, false},
		{"behind the greatest, one", last, false, 1, nil, false},
		{"behind the greatest, below 0", last, false, -1, nil, false},
		{"behind the greatest, the greatest", last, false, math.MaxInt, nil, false},
		{"behind the greatest, the least", last, false, math.MinInt, nil, false},
	} {
		got, more := p.gather.Page(r.after, r.first, r.n)
		if !slices.Equal(idsOf(got), r.want) || more != r.more {
			t.Errorf("%s: Page(%d, %v, %d): %v, %v; want %v, %v", r.what, r.after, r.first, r.n, idsOf(got), more, r.want, r.more)
		}
		p.page(t, r.after, r.first, r.n)
	}
	p.check(t, "asked")
}

// TestP18_1PageNoEnds: neither 0 nor the greatest id is there, so that all are behind 0, and none behind the greatest one.
func TestP18_1PageNoEnds(t *testing.T) {
	p := filled(t, rec(7, 1, 1), rec(5, 1, 1), rec(last-1, 1, 1))
	for _, first := range []bool{true, false} {
		if got, more := p.gather.Page(0, first, 3); !slices.Equal(idsOf(got), []uint64{5, 7, last - 1}) || more {
			t.Errorf("Page(0, %v, 3): %v, %v", first, got, more)
		}
		if got, more := p.gather.Page(0, first, 2); !slices.Equal(idsOf(got), []uint64{5, 7}) || !more {
			t.Errorf("Page(0, %v, 2): %v, %v", first, got, more)
		}
	}
	for _, after := range []uint64{last - 1, last} {
		if got, more := p.gather.Page(after, false, 3); len(got) != 0 || more {
			t.Errorf("Page(%d, false, 3): %v, %v; want none, false", after, got, more)
		}
	}
}

// TestP18_1PageAll asks for all pages: behind each id, each one just beside it, and those that are not there, of each n.
func TestP18_1PageAll(t *testing.T) {
	for _, l := range [][]api.Record{nil, grid()[:1], grid()[3:5], grid()[len(ids)-1:], grid()[4:9], grid(), many(30)} {
		p := filled(t, l...)
		for _, id := range append(idsOf(l), ids...) {
			for _, after := range []uint64{id - 1, id, id + 1} {
				for n := range len(l) + 3 {
					p.page(t, after, false, n)
					p.page(t, after, true, n)
				}
				for _, n := range []int{math.MinInt, math.MinInt32, -2, -1, math.MaxInt32, 1 << 32, math.MaxInt - 1, math.MaxInt} {
					p.page(t, after, false, n)
					p.page(t, after, true, n)
				}
			}
		}
		p.check(t, "asked")
	}
}

// TestP18_1PageThrough: page by page there is all, nothing twice, nothing left out; of which MaxPage plays no part.
func TestP18_1PageThrough(t *testing.T) {
	for _, size := range []int{0, 1, 2, 7, 100, 101, 350} {
		p := filled(t, many(size)...)
		all := p.gather.All()
		for _, n := range []int{1, 2, 3, 7, 99, 100, 101, 349, 350, 351} {
			var l []api.Record
			page, more := p.gather.Page(last, true, n)
			l = append(l, page...)
			pages := 1
			for ; more && pages < 400; pages++ {
				if len(page) != n {
					t.Fatalf("a page of %d: %d, and there are more", n, len(page))
				}
				page, more = p.gather.Page(page[n-1].Id, false, n)
				l = append(l, page...)
			}
			if !alike(l, all) || pages != max((size+n-1)/n, 1) {
				t.Errorf("%d pages of %d: %d records; want all %d", pages, n, len(l), size)
			}
		}
	}
}

// TestP18_1PageNewer: a page has the newest of each id, and nothing of what it took the place of.
func TestP18_1PageNewer(t *testing.T) {
	p := filled(t, grid()...)
	for i, r := range grid() {
		r.Version += 5
		r.Values = []uint32{uint32(i)}
		p.add(t, r)
		p.page(t, r.Id-1, false, 1)
		p.page(t, r.Id, false, 1)
		p.page(t, 0, true, len(ids))
	}
	p.check(t, "newer ones")
}

// deeds are lists that change a gather which has some of grid, but for the first ones.
func deeds() [][]api.Record {
	newer := grid()
	for i := range newer {
		newer[i].Version += 50
		newer[i].Values = []uint32{9, 9, 9}[:1]
	}
	return [][]api.Record{
		nil, {rec(7, 0, 1)}, {rec(0, 9)}, {rec(4, 1, 1)}, {rec(0, 99, 1)}, {rec(last, 99, 1)}, {rec(7, 99, 1)}, {rec(7, 98, 1), rec(3, 1, 2), rec(7, 99, 3)},
		newer, newer[4:6], many(40),
	}
}

// TestP18_1Fork goes on with one while the other one is not changed, and the other way round.
func TestP18_1Fork(t *testing.T) {
	for _, n := range []int{0, 1, 2, 3, len(ids)} {
		for _, d := range deeds() {
			first := filled(t, grid()[:n]...)
			second := first.fork()
			if first.gather == second.gather {
				t.Fatal("the fork is the same one")
			}
			second.check(t, "a fork")
			first.add(t, d...)
			first.check(t, "what was forked, added to")
			second.check(t, "a fork, the other one added to")
			second.add(t, rec(6, 3, 7), rec(last, 60, 7))
			first.check(t, "what was forked, its fork added to")
			second.add(t, d...)
			second.check(t, "a fork, added to")
			first.check(t, "what was forked, its fork added to again")

			third := second.fork().fork()
			third.add(t, d...)
			third.add(t, rec(6, 4, 8), rec(0, 60, 8))
			third.check(t, "a fork's fork's fork, added to")
			second.check(t, "a fork, its fork added to")
			first.check(t, "what was forked, a fork's fork's fork added to")
		}
	}
}

// TestP18_1ForkTwice: two forks of one are added to behind its end, each its own.
func TestP18_1ForkTwice(t *testing.T) {
	for n := range 20 {
		p := filled(t, many(n)...)
		p.add(t, rec(5, 1, 1))
		p.add(t, rec(5, 9, 2))
		one, other := p.fork(), p.fork()
		one.add(t, rec(last, 1, 1))
		other.add(t, rec(last-1, 1, 2))
		p.add(t, rec(last-2, 1, 3), rec(last-3, 1, 3))
		one.check(t, "a fork")
		other.check(t, "another fork")
		p.check(t, "what was forked")
	}
}

// TestP18_1ForkBox: a fork is of the same box.
func TestP18_1ForkBox(t *testing.T) {
	for _, b := range [][]api.Range{nil, {anything}, {nothing}, {between(5, 9)}, {between(5, 9), between(0, 3)}} {
		p := newPair(b...)
		fork := p.fork()
		for _, r := range []api.Record{rec(1, 1), rec(2, 1, 5), rec(3, 1, 10), rec(4, 1, 9, 3), rec(5, 1, 9, 4), rec(6, 1, 5, 5, 5)} {
			fork.add(t, r)
			fork.fork().add(t, r)
		}
		fork.check(t, "a fork")
		p.check(t, "what was forked")
	}
}

// TestP18_1Nil: of nil there is none, whatever is asked, and whatever was added.
func TestP18_1Nil(t *testing.T) {
	var g *gather.Gather
	for range 2 {
		for _, l := range append(deeds(), grid(), []api.Record{{}}) {
			if got := g.Add(l); got != 0 {
				t.Errorf("Add of %d records to nil: %d; want 0", len(l), got)
			}
		}
		if got := g.All(); len(got) != 0 {
			t.Errorf("All of nil: %v; want none", got)
		}
		for _, after := range ids {
			for _, n := range []int{math.MinInt, -1, 0, 1, math.MaxInt} {
				for _, first := range []bool{true, false} {
					if got, more := g.Page(after, first, n); len(got) != 0 || more {
						t.Errorf("Page(%d, %v, %d) of nil: %v, %v; want none, false", after, first, n, got, more)
					}
				}
			}
		}
		if g.Fork() != nil {
			t.Error("Fork of nil: not nil")
		}
	}
}

// TestP18_Everywhere makes strewn deeds, and holds the gather against a plain one.
func TestP18_Everywhere(t *testing.T) {
	in, out, newer := 0, 0, 0
	for seed := range uint64(150) {
		next := strewn(seed)
		b := strewnBox(next)
		all := []pair{newPair(b...)}
		for range 60 {
			p := all[next(len(all))]
			switch next(6) {
			default:
				l, had := strewnRecords(b, next(9), next), len(p.like.list)
				p.add(t, l...)
				for _, r := range l {
					if matches(b, r.Values) {
						in++
					} else {
						out++
					}
				}
				newer += len(l) - (len(p.like.list) - had)
			case 0:
				p.add(t, mixed(p.gather.All(), next)...)
			case 1:
				p.page(t, ids[next(len(ids))], next(4) == 0, next(9)-1)
			case 2:
				if len(all) < 4 {
					all = append(all, p.fork())
				} else {
					all[next(len(all))] = p.fork()
				}
			}
			p.check(t, "so far")
		}
		for _, p := range all {
			p.check(t, "in the end")
		}
	}
	if in < 2000 || out < 2000 || newer < 2000 {
		t.Errorf("too few of a kind were met: %d matched, %d did not, %d were of an id that was there", in, out, newer)
	}
}

// TestWhatFollows: in whatever order answers come, and how often, the newest of each id are there.
func TestWhatFollows(t *testing.T) {
	b := []api.Range{between(5, 9)}
	l := []api.Record{rec(1, 1, 5), rec(1, 2, 6), rec(1, 3, 4), rec(2, 2, 7), rec(2, 1, 8), rec(0, 0, 9), rec(last, 5, 5)}
	newest := []api.Record{rec(0, 0, 9), rec(1, 2, 6), rec(2, 2, 7), rec(last, 5, 5)}
	count := 0
	orders(l, 0, func(l []api.Record) {
		count++
		single, whole, pairs, often := gather.New(b), gather.New(b), gather.New(b), gather.New(b)
		for i := range l {
			single.Add(l[i : i+1])
			pairs.Add(l[max(i-1, 0) : i+1])
			often.Add(l[:i+1])
			often.Add(l[i:])
		}
		whole.Add(l)
		often.Add(slices.Concat(l, l))
		for i, g := range []*gather.Gather{single, whole, pairs, often} {
			if got := g.All(); !alike(got, newest) {
				t.Fatalf("the way %d, %v: %v; want %v", i, l, got, newest)
			}
			if n := g.Add(l); n != 0 {
				t.Fatalf("the way %d, %v: Add once more: %d; want 0", i, l, n)
			}
		}
	})
	if count != 5040 {
		t.Errorf("%d orders", count)
	}
}

// orders tells each order of those from n on.
func orders(l []api.Record, n int, tell func([]api.Record)) {
	if n == len(l) {
		tell(l)
		return
	}
	for i := n; i < len(l); i++ {
		l[n], l[i] = l[i], l[n]
		orders(l, n+1, tell)
		l[n], l[i] = l[i], l[n]
	}
}

// TestWhatFollowsStrewn: answers of many records, which have records in common.
func TestWhatFollowsStrewn(t *testing.T) {
	for seed := range uint64(40) {
		next := strewn(seed)
		b := strewnBox(next)
		var answers [][]api.Record
		versions := map[uint64]uint64{}
		for range 12 {
			l := strewnRecords(b, next(20), next)
			for i := range l { // of one Id and Version there is one record, as a client writes it
				versions[l[i].Id]++
				l[i].Version = versions[l[i].Id]
			}
			answers = append(answers, l)
		}
		answers = append(answers, answers[:6]...)
		first := newPair(b...)
		for _, l := range answers {
			first.add(t, l...)
		}
		first.check(t, "answers")
		for range 6 {
			for i := range answers {
				k := next(i + 1)
				answers[i], answers[k] = answers[k], answers[i]
			}
			g := gather.New(b)
			for _, l := range answers {
				g.Add(mixed(l, next))
			}
			if got, want := g.All(), first.gather.All(); !alike(got, want) {
				t.Errorf("in another order: %v; want %v", got, want)
			}
		}
	}
}

// TestR1: whatever a record, or a box, has, it is taken as it is; and a gather that New did not make is one of a box of
// no ranges.
func TestR1(t *testing.T) {
	wild := []api.Record{
		{}, rec(last, last), rec(last, last, top), rec(16<<32, 0, 0), rec(0, 0, top), {Id: 3, Values: make([]uint32, 100000)},
		{Id: 3, Version: 1, Values: make([]uint32, 0, 5)}, {Id: 4, Version: 1, Values: []uint32{}}, {Id: 4, Version: 2},
	}
	for _, b := range [][]api.Range{nil, {anything}, {{Kind: math.MaxInt}}, {{Kind: math.MinInt, Hi: top}}, slices.Repeat([]api.Range{anything}, 100000)} {
		p := newPair(b...)
		p.add(t, wild...)
		p.check(t, "added")
		for i := range wild {
			p.add(t, wild[i])
			p.fork().add(t, wild...)
		}
		p.add(t, append(wild, wild...)...)
		p.check(t, "added again")
	}
	p := pair{&gather.Gather{}, &plain{}}
	p.check(t, "nothing")
	p.fork().check(t, "a fork of nothing")
	p.add(t, wild...)
	p.check(t, "one that New did not make")
	p.fork().check(t, "a fork of one that New did not make")
}

// TestR2Apart: what is done with one does not touch another one; a plain copy is another one.
func TestR2Apart(t *testing.T) {
	for _, n := range []int{0, 1, 2, len(ids)} {
		for _, d := range deeds() {
			one := filled(t, grid()[:n]...)
			two, three, was := one.plainCopy(), one.plainCopy(), one.like.list
			one.add(t, d...)
			one.check(t, "what was copied, added to")
			two.check(t, "a plain copy, the other one added to")
			two.add(t, rec(7, 60, 7))
			two.add(t, d...)
			one.check(t, "what was copied, its copy added to")
			two.check(t, "a plain copy, added to")
			three.check(t, "another plain copy")
			*one.gather, one.like.list = *three.gather, was
			one.add(t, rec(7, 61, 7))
			one.add(t, d...)
			one.check(t, "what was set back, added to")
			three.check(t, "what it was set back to")
		}
	}
}

// TestR2Together: forks and copies may be added to at the same time, and one may be asked by several.
func TestR2Together(t *testing.T) {
	p := filled(t, grid()...)
	var jobs sync.WaitGroup
	for i := range 8 {
		forks := []pair{p.fork(), p.plainCopy()}
		jobs.Go(func() {
			for _, one := range forks {
				for _, d := range deeds()[i:] {
					one.add(t, d...)
					one.page(t, 7, false, 4)
				}
			}
			p.gather.Fork().Add(many(5))
			spoilAll(p.gather.All())
			l, _ := p.gather.Page(0, true, 5)
			spoilAll(l)
		})
	}
	jobs.Wait()
	p.check(t, "what was forked and copied")
}

// TestR2Reading: who only asks changes nothing, and is answered alike.
func TestR2Reading(t *testing.T) {
	l := many(300)
	p := filled(t, l...)
	slices.Reverse(l)
	other := filled(t, l...)
	for range 3 {
		if got, want := other.gather.All(), p.gather.All(); !alike(got, want) {
			t.Errorf("All of what came the other way round: %v ..; want %v ..", short(got), short(want))
		}
		for _, after := range ids {
			p.page(t, after, false, 11)
			other.page(t, after, false, 11)
		}
		p.gather.Fork()
		p.add(t)
		p.add(t, l...)
		p.check(t, "asked again")
	}
}

// TestR3In: what is handed in is not changed and not kept, nor is the room behind its end.
func TestR3In(t *testing.T) {
	for _, n := range []int{0, 1, 2, 8, 100} {
		ranges := append(slices.Repeat([]api.Range{between(5, 9)}, n), nothing, anything)
		values := append(slices.Repeat([]uint32{5}, n), 91, 92, 93)
		keptRanges, keptValues := slices.Clone(ranges), slices.Clone(values)
		p := newPair(ranges[:n]...)
		p.gather = gather.New(ranges[:n])
		others := [][]uint32{slices.Clone(values), slices.Clone(values), slices.Clone(values)}
		l := []api.Record{
			rec(9, 2, others[0][:n]...), rec(4, 1, others[1][:n]...), rec(9, 1, others[2][:n]...), rec(8, 8, 1, 1), // refused, the last two
			rec(77, 7, 7), rec(78, 7, 7),
		}
		was := deepAll(l)
		p.add(t, rec(7, 1, values[:n]...), rec(7, 2, values[:n]...))
		p.add(t, rec(7, 3, values[:n]...)) // in the other one's place
		p.add(t, rec(7, 1, values[:n]...)) // refused
		p.add(t, l[:4]...)
		p.add(t, l[:4]...)
		if !slices.Equal(ranges, keptRanges) {
			t.Errorf("New or Add changed %d ranges, or the room behind", n)
		}
		if !alike(l, was) {
			t.Errorf("Add changed its list, or the room behind: %v; want %v", l, was)
		}
		for _, room := range append(others, values) {
			if !slices.Equal(room, keptValues) {
				t.Errorf("Add changed %d values, or the room behind", n)
			}
		}
		fork := p.fork()
		for i := range ranges {
			ranges[i] = between(6, 6)
		}
		spoilAll(l)
		spoil(values)
		for _, room := range append(others, values) {
			if slices.Contains(room, 5) || slices.Contains(room, 91) {
				t.Fatalf("not spoilt: %v", room)
			}
		}
		p.check(t, "what was added, spoilt")
		fork.check(t, "what was added, spoilt, of a fork")
		p.add(t, rec(5, 1, keptValues[:n]...), rec(6, 1, slices.Repeat([]uint32{6}, n)...), rec(7, 9, slices.Repeat([]uint32{10}, n)...))
		p.check(t, "the box, spoilt")
		fork.add(t, rec(5, 1, keptValues[:n]...))
		fork.check(t, "the box, spoilt, of a fork")
	}
}

// TestR3InOne: one list of values that many records have is each one's own.
func TestR3InOne(t *testing.T) {
	values := []uint32{5, 6}
	l := []api.Record{rec(1, 1, values...), rec(2, 1, values...), rec(1, 2, values...), rec(3, 1, values...)}
	p := newPair(anything, anything)
	p.add(t, l...)
	told := p.gather.All()
	alone(t, told)
	p.check(t, "what was told, spoilt")
	spoil(values)
	p.check(t, "the one list, spoilt")
	alone(t, p.gather.All())
}

// TestR3Out: who writes into what is told, and into the room behind its end, changes nothing else.
func TestR3Out(t *testing.T) {
	for _, values := range []int{0, 1, 2, 7} {
		p := newPair(slices.Repeat([]api.Range{anything}, values)...)
		for i, id := range ids {
			p.add(t, rec(id, 1, slices.Repeat([]uint32{uint32(i)}, values)...))
		}
		fork := p.fork()
		told, again := p.gather.All(), p.gather.All()
		spoilAll(told)
		if !alike(again, p.like.all()) {
			t.Errorf("what All told ahead of that was changed: %v", again)
		}
		p.check(t, "what All told, spoilt")
		fork.check(t, "what All told, spoilt, of a fork")
		alone(t, again)
		for n := range len(ids) + 1 {
			for _, first := range []bool{true, false} {
				told, _ := p.gather.Page(7, first, n)
				again, _ := p.gather.Page(7, first, n)
				was := deepAll(again)
				spoilAll(told)
				if !alike(again, was) {
					t.Errorf("what Page told ahead of that was changed: %v; want %v", again, was)
				}
				alone(t, again)
				p.check(t, "what Page told, spoilt")
				fork.check(t, "what Page told, spoilt, of a fork")
			}
		}
		p.add(t, rec(9, 9, slices.Repeat([]uint32{9}, values)...))
		alone(t, p.gather.All())
		p.check(t, "what was told, spoilt, and one more added")
	}
}

// alone spoils the Values of one after the other: those behind it stay as they are.
func alone(t *testing.T, l []api.Record) {
	t.Helper()
	was := deepAll(l)
	for i := range l {
		if !same(l[i], was[i]) {
			t.Fatalf("two lists of one answer share room: %v; want %v", l[i], was[i])
		}
		spoil(l[i].Values)
	}
}

// TestR3Empty: a record of no values, nil or empty, is one and the same, and so is a box of no ranges.
func TestR3Empty(t *testing.T) {
	for _, b := range [][]api.Range{nil, {}, make([]api.Range, 0, 3)} {
		for _, values := range [][]uint32{nil, {}, make([]uint32, 0, 3)} {
			p := newPair(b...)
			p.gather = gather.New(b)
			l := []api.Record{{Id: 5, Version: 2, Values: values}}
			if got := p.gather.Add(l); got != 1 {
				t.Errorf("Add of a record of no values: %d; want 1", got)
			}
			for _, others := range [][]uint32{nil, {}, make([]uint32, 0, 3)} {
				if got := p.gather.Add([]api.Record{{Id: 5, Version: 2, Values: others}}); got != 0 {
					t.Errorf("Add of it again: %d; want 0", got)
				}
			}
			p.like.list = l
			p.check(t, "no values")
		}
	}
}

// TestR4: a Page that has nothing behind it tells its records all the same, and one that has nothing tells none.
func TestR4(t *testing.T) {
	p := filled(t, rec(5, 1, 1), rec(6, 1, 2))
	if got, more := p.gather.Page(5, false, 1); more || !alike(got, []api.Record{rec(6, 1, 2)}) {
		t.Errorf("Page(5, false, 1): %v, %v; want the one of 6, false", got, more)
	}
	for _, after := range []uint64{6, 7, last} {
		if got, more := p.gather.Page(after, false, 1); more || len(got) != 0 {
			t.Errorf("Page(%d, false, 1): %v, %v; want none, false", after, got, more)
		}
	}
}
