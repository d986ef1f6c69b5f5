package gather_test

import (
	"cmp"
	"math"
	"slices"
	"testing"

	"petasos/api"
	"petasos/gather"
)

const (
	top  = math.MaxUint32 // the greatest value
	last = math.MaxUint64 // the greatest id, and the greatest version
)

// plain is the chapter's gather by a list, in the order in which the records came, that is gone through one by one; it is
// not written into, so that forks share it.
type plain struct {
	box  []api.Range
	list []api.Record
}

// matches goes by numbers that never go round.
func matches(b []api.Range, values []uint32) bool {
	if len(b) != len(values) {
		return false
	}
	for i, v := range values {
		lo, hi := b[i].Lo, b[i].Hi
		switch {
		case b[i].Kind == api.Any:
		case b[i].Kind != api.Between:
			return false
		case lo <= hi && (v < lo || hi < v):
			return false
		case lo > hi && hi < v && v < lo:
			return false
		}
	}
	return true
}

func (p *plain) add(l []api.Record) int {
	n := 0
	for _, r := range l {
		if !matches(p.box, r.Values) {
			continue
		}
		i := slices.IndexFunc(p.list, func(there api.Record) bool { return there.Id == r.Id })
		switch {
		case i < 0:
			p.list = append(slices.Clip(p.list), deep(r))
		case p.list[i].Version < r.Version:
			p.list = slices.Clone(p.list)
			p.list[i] = deep(r)
		default:
			continue
		}
		n++
	}
	return n
}

func (p *plain) all() []api.Record {
	return slices.SortedFunc(slices.Values(p.list), func(a, b api.Record) int { return cmp.Compare(a.Id, b.Id) })
}

// page goes through all records, those of earlier pages among them.
func (p *plain) page(after uint64, first bool, n int) ([]api.Record, bool) {
	var l []api.Record
	more := false
	for _, r := range p.all() {
		switch {
		case !first && r.Id <= after:
		case len(l) < n:
			l = append(l, r)
		default:
			more = true
		}
	}
	return l, more
}

// pair is a gather, and a plain one, to which the same is done; what both answer is held against each other.
type pair struct {
	gather *gather.Gather
	like   *plain
}

func newPair(b ...api.Range) pair { return pair{gather.New(b), &plain{box: slices.Clone(b)}} }

// filled is a pair of a box of one range, Any, that has these, none of which is of the id of another one.
func filled(t *testing.T, l ...api.Record) pair {
	t.Helper()
	p := newPair(anything)
	p.like.list = deepAll(l)
	if got := p.gather.Add(l); got != len(l) {
		t.Fatalf("Add of %d records of unlike ids: %d", len(l), got)
	}
	return p
}

func (p pair) add(t *testing.T, l ...api.Record) {
	t.Helper()
	want := p.like.add(l)
	if got := p.gather.Add(l); got != want {
		t.Errorf("Add of %d records, %v ..: %d; want %d", len(l), short(l), got, want)
	}
}

func (p pair) page(t *testing.T, after uint64, first bool, n int) {
	t.Helper()
	want, wantMore := p.like.page(after, first, n)
	got, more := p.gather.Page(after, first, n)
	if more != wantMore || !alike(got, want) {
		t.Errorf("Page(%d, %v, %d): %d records, %v .., %v; want %d, %v .., %v", after, first, n, len(got), short(got), more, len(want), short(want), wantMore)
	}
}

func (p pair) fork() pair { return pair{p.gather.Fork(), &plain{p.like.box, p.like.list}} }

// plainCopy is another one, too, but Fork has not made it.
func (p pair) plainCopy() pair {
	g := *p.gather
	return pair{&g, &plain{p.like.box, p.like.list}}
}

// check asks for all that is there, and for some pages of it.
func (p pair) check(t *testing.T, what string) {
	t.Helper()
	if t.Failed() {
		t.Fatalf("%s: stopped", what)
	}
	all := p.like.all()
	if got := p.gather.All(); !alike(got, all) {
		t.Errorf("%s: All: %d records, %v ..; want %d, %v ..", what, len(got), short(got), len(all), short(all))
	}
	p.page(t, 0, true, len(all))
	p.page(t, last, true, len(all)-1)
	for i := 0; i < len(all); i += len(all)/5 + 1 {
		p.page(t, all[i].Id, false, 2)
		p.page(t, all[i].Id-1, false, len(all)-i)
		p.page(t, all[i].Id+1, false, 1)
	}
	if t.Failed() {
		t.Fatalf("%s: it has not what it should have", what)
	}
}

func alike(a, b []api.Record) bool { return slices.EqualFunc(a, b, same) }

// same holds all that records have against each other.
func same(a, b api.Record) bool {
	return a.Id == b.Id && a.Version == b.Version && slices.Equal(a.Values, b.Values)
}

// short leaves out what nobody would read.
func short(l []api.Record) []api.Record { return l[:min(len(l), 9)] }

// deep is r with Values of its own.
func deep(r api.Record) api.Record {
	r.Values = append([]uint32{}, r.Values...)
	return r
}

func deepAll(l []api.Record) []api.Record {
	var all []api.Record
	for _, r := range l {
		all = append(all, deep(r))
	}
	return all
}

func rec(id, version uint64, values ...uint32) api.Record {
	return api.Record{Id: id, Version: version, Values: values}
}

// anything, nothing and between are ranges.
var (
	anything = api.Range{Kind: api.Any}
	nothing  = api.Range{Kind: api.Nothing}
)

func between(lo, hi uint32) api.Range { return api.Range{Kind: api.Between, Lo: lo, Hi: hi} }

// idsOf is the ids of a list, in its order.
func idsOf(l []api.Record) []uint64 {
	var ids []uint64
	for _, r := range l {
		ids = append(ids, r.Id)
	}
	return ids
}

// ids are such as differ in low bits, and in high ones alone.
var ids = []uint64{0, 1, 2, 7, 1<<16 + 2, 1<<31 - 1, 1 << 31, top, 1 << 32, 1<<32 + 1, 15<<32 + 2, 1<<63 - 1, 1 << 63, 1<<63 + 1, last - 1, last}

// grid is a record of each of ids, of one value, the greatest id first.
func grid() []api.Record {
	var l []api.Record
	for i, id := range slices.Backward(ids) {
		l = append(l, rec(id, uint64(i%4+1), uint32(i)*1000))
	}
	return l
}

// many is n records of one value, of unlike ids, each far from the one that came ahead of it.
func many(n int) []api.Record {
	var l []api.Record
	for i := range n {
		l = append(l, rec(uint64(i)*0x9e3779b97f4a7c15, uint64(i%5+1), uint32(i)))
	}
	return l
}

// strewn makes numbers one after the other, alike for the same seed.
func strewn(seed uint64) func(n int) int {
	return func(n int) int {
		seed = seed*6364136223846793005 + 1442695040888963407
		return int(seed>>33) % n
	}
}

// mixed is l in another order.
func mixed(l []api.Record, next func(int) int) []api.Record {
	l = slices.Clone(l)
	for i := range l {
		k := next(i + 1)
		l[i], l[k] = l[k], l[i]
	}
	return l
}

// edges are values of strewn boxes and records: few, so that some match.
var edges = []uint32{0, 1, 9, 10, 1<<31 - 1, 1 << 31, top - 1, top}

func strewnBox(next func(int) int) []api.Range {
	var b []api.Range
	for range next(4) {
		r := api.Range{Kind: api.Any, Lo: edges[next(len(edges))], Hi: edges[next(len(edges))]}
		if next(2) == 0 {
			r.Kind = api.Between
		}
		if next(30) == 0 {
			r.Kind = next(6) - 1
		}
		b = append(b, r)
	}
	return b
}

// strewnRecord is of few ids and versions, so that there are often two of one id; mostly of as many values as b has ranges.
func strewnRecord(b []api.Range, next func(int) int) api.Record {
	r := rec(ids[next(len(ids))], uint64(next(5)))
	count := len(b)
	if next(8) == 0 {
		count = next(5)
	}
	for range count {
		r.Values = append(r.Values, edges[next(len(edges))])
	}
	return r
}

func strewnRecords(b []api.Range, n int, next func(int) int) []api.Record {
	var l []api.Record
	for range n {
		l = append(l, strewnRecord(b, next))
	}
	return l
}

// spoil writes into l, and into the room behind its end.
func spoil(l []uint32) {
	l = l[:cap(l)]
	for i := range l {
		l[i] ^= 0xeeeeeeee
	}
}

// spoilAll writes into all that a list of records has, and into the room behind its end.
func spoilAll(l []api.Record) {
	l = l[:cap(l)]
	for i := range l {
		spoil(l[i].Values)
		l[i] = rec(77, 77, 77)
	}
}
