package shelf_test

import (
	"cmp"
	"math"
	"slices"
	"testing"

	"petasos/api"
	"petasos/shelf"
)

const top = math.MaxUint32 // the greatest value

// plain is the chapter's shelf by a list that is gone through entry by entry; the list is not written into, so that
// forks share it.
type plain struct{ list []api.Entry }

func (p *plain) at(k api.Key) int {
	return slices.IndexFunc(p.list, func(e api.Entry) bool { return e.Value == k.Value && e.Record.Id == k.Id })
}

// newer is chapter 4's.
func newer(a, b api.Entry) bool {
	if a.Record.Version == b.Record.Version {
		return a.Gone && !b.Gone
	}
	return a.Record.Version > b.Record.Version
}

func (p *plain) put(e api.Entry) (bool, api.Errno) {
	i := p.at(api.Key{Value: e.Value, Id: e.Record.Id})
	switch {
	case i < 0 && len(p.list) == api.MaxEntries:
		return false, api.ErrFull
	case i < 0:
		p.list = append(slices.Clip(p.list), e)
	case newer(e, p.list[i]):
		p.list = slices.Clone(p.list)
		p.list[i] = e
	default:
		return false, api.OK
	}
	return true, api.OK
}

func (p *plain) get(k api.Key) (api.Entry, bool) {
	if i := p.at(k); i >= 0 {
		return p.list[i], true
	}
	return api.Entry{}, false
}

// steps counts from one value to another, by numbers that never go round: from 1, to the value itself 2^32.
func steps(from, to uint32) int64 {
	n := int64(to) - int64(from)
	if n <= 0 {
		n += 1 << 32
	}
	return n
}

func has(s api.Span, v uint32) bool { return steps(s.From, v) <= steps(s.From, s.To) }

func (p *plain) scan(s api.Span) []api.Entry {
	var l []api.Entry
	for _, e := range p.list {
		if has(s, e.Value) {
			l = append(l, e)
		}
	}
	slices.SortFunc(l, func(a, b api.Entry) int {
		return cmp.Or(cmp.Compare(steps(s.From, a.Value), steps(s.From, b.Value)), cmp.Compare(a.Record.Id, b.Record.Id))
	})
	return l
}

func (p *plain) cut(s api.Span) []api.Entry {
	l := p.scan(s)
	p.list = slices.DeleteFunc(slices.Clone(p.list), func(e api.Entry) bool { return has(s, e.Value) })
	return l
}

func (p *plain) join(l []api.Entry) int {
	n := 0
	for _, e := range l {
		if is, _ := p.put(e); is {
			n++
		}
	}
	return n
}

func (p *plain) live() int {
	n := len(p.list)
	for _, e := range p.list {
		if e.Gone {
			n--
		}
	}
	return n
}

// pair is a shelf, and a plain one, to which the same is done; what both answer is held against each other.
type pair struct {
	shelf *shelf.Shelf
	like  *plain
}

func newPair() pair { return pair{shelf.New(), &plain{}} }

// filled is a pair that has these, none of which is of the key of another one.
func filled(t *testing.T, l []api.Entry) pair {
	t.Helper()
	p := pair{shelf.New(), &plain{deepAll(l)}}
	for i, e := range l {
		if is, err := p.shelf.Put(e); !is || err != api.OK {
			t.Fatalf("Put of the entry %d: %v, %d", i, is, err)
		}
	}
	return p
}

func (p pair) put(t *testing.T, e api.Entry) {
	t.Helper()
	want, wantErr := p.like.put(deep(e))
	if got, err := p.shelf.Put(e); got != want || err != wantErr {
		t.Errorf("Put(%v): %v, %d; want %v, %d", e, got, err, want, wantErr)
	}
}

func (p pair) get(t *testing.T, k api.Key) {
	t.Helper()
	want, wantIs := p.like.get(k)
	if got, is := p.shelf.Get(k); is != wantIs || !same(got, want) {
		t.Errorf("Get(%v): %v, %v; want %v, %v", k, got, is, want, wantIs)
	}
}

func (p pair) scan(t *testing.T, s api.Span) {
	t.Helper()
	alike(t, "Scan", s, p.shelf.Scan(s), p.like.scan(s))
}

func (p pair) cut(t *testing.T, s api.Span) {
	t.Helper()
	alike(t, "Cut", s, p.shelf.Cut(s), p.like.cut(s))
}

func (p pair) join(t *testing.T, l []api.Entry) {
	t.Helper()
	want := p.like.join(deepAll(l))
	if got := p.shelf.Join(l); got != want {
		t.Errorf("Join of %d: %d; want %d", len(l), got, want)
	}
}

func (p pair) fork() pair { return pair{p.shelf.Fork(), &plain{p.like.list}} }

// plainCopy is another one, too, but Fork has not made it.
func (p pair) plainCopy() pair {
	s := *p.shelf
	return pair{&s, &plain{p.like.list}}
}

// check asks for all that is there, for entries one by one, and for keys that are near them.
func (p pair) check(t *testing.T, what string) {
	t.Helper()
	if t.Failed() {
		t.Fatalf("%s: stopped", what)
	}
	if got, want := p.shelf.Len(), len(p.like.list); got != want {
		t.Errorf("%s: Len: %d; want %d", what, got, want)
	}
	if got, want := p.shelf.Live(), p.like.live(); got != want {
		t.Errorf("%s: Live: %d; want %d", what, got, want)
	}
	p.scan(t, api.Span{From: top, To: top})
	for i := 0; i < len(p.like.list); i += len(p.like.list)/300 + 1 {
		k := api.Key{Value: p.like.list[i].Value, Id: p.like.list[i].Record.Id}
		p.get(t, k)
		for _, near := range []api.Key{{Value: k.Value + 1, Id: k.Id}, {Value: k.Value, Id: k.Id + 1}, {Value: uint32(k.Id), Id: uint64(k.Value)}} {
			p.get(t, near)
		}
	}
	if t.Failed() {
		t.Fatalf("%s: it has not what it should have", what)
	}
}

// same holds all that entries have against each other.
func same(a, b api.Entry) bool {
	return a.Value == b.Value && a.Gone == b.Gone && a.Record.Id == b.Record.Id && a.Record.Version == b.Record.Version &&
		slices.Equal(a.Record.Values, b.Record.Values)
}

func alike(t *testing.T, what string, s api.Span, got, want []api.Entry) {
	t.Helper()
	if !slices.EqualFunc(got, want, same) {
		t.Errorf("%s(%v): %v; want %v", what, s, short(got), short(want))
	}
}

// short leaves out what nobody would read.
func short(l []api.Entry) []api.Entry { return l[:min(len(l), 20)] }

// deep is e with Values of its own.
func deep(e api.Entry) api.Entry {
	e.Record.Values = append([]uint32{}, e.Record.Values...)
	return e
}

func deepAll(l []api.Entry) []api.Entry {
	var all []api.Entry
	for _, e := range l {
		all = append(all, deep(e))
	}
	return all
}

// entry is one of a record of one attribute.
func entry(value uint32, id, version uint64) api.Entry {
	return api.Entry{Value: value, Record: api.Record{Id: id, Version: version, Values: []uint32{value}}}
}

func gone(e api.Entry) api.Entry {
	e.Gone = true
	return e
}

// many is n entries, none of the key of another one; each seventh is gone.
func many(n int) []api.Entry {
	var l []api.Entry
	for i := range n {
		e := entry(uint32(i)*0x9e3779b1, uint64(i%16)<<32+uint64(i/3), uint64(i%5+1))
		e.Gone = i%7 == 0
		l = append(l, e)
	}
	return l
}

// edges are values at which something might go wrong.
var edges = []uint32{0, 1, 2, 9, 10, 11, 1<<16 - 1, 1 << 16, 1<<31 - 1, 1 << 31, 1<<31 + 1, top - 2, top - 1, top}

// ids are such as differ in low bits, and in high ones alone.
var ids = []uint64{0, 1, 2, 1<<32 - 1, 1 << 32, 1<<32 + 1, 15 << 32, 1<<63 - 1, 1 << 63, 1<<63 + 1, math.MaxUint64}

// spans are those from each edge to each.
func spans() []api.Span {
	var l []api.Span
	for _, from := range edges {
		for _, to := range edges {
			l = append(l, api.Span{From: from, To: to})
		}
	}
	return l
}

// grid is an entry of each edge with each id.
func grid() []api.Entry {
	var l []api.Entry
	for i, id := range ids {
		for k, value := range edges {
			e := entry(value, id, uint64(i+k))
			e.Gone = (i+k)%3 == 0
			l = append(l, e)
		}
	}
	return l
}

// strewn makes numbers one after the other, alike for the same seed.
func strewn(seed uint64) func(n int) int {
	return func(n int) int {
		seed = seed*6364136223846793005 + 1442695040888963407
		return int(seed>>33) % n
	}
}

// strewnEntry is one of few keys and versions, so that there are often two of one key.
func strewnEntry(next func(int) int) api.Entry {
	e := entry(edges[next(len(edges))], ids[next(len(ids))], uint64(next(4)))
	for range next(4) {
		e.Record.Values = append(e.Record.Values, uint32(next(100)))
	}
	e.Gone = next(3) == 0
	return e
}

func strewnSpan(next func(int) int) api.Span {
	return api.Span{From: edges[next(len(edges))], To: edges[next(len(edges))]}
}

// spoil writes into l, and into the room behind its end.
func spoil(l []uint32) {
	l = l[:cap(l)]
	for i := range l {
		l[i] ^= 0xeeeeeeee
	}
}

// spoilAll writes into all that a list of entries has, and into the room behind its end.
func spoilAll(l []api.Entry) {
	l = l[:cap(l)]
	for i := range l {
		spoil(l[i].Record.Values)
		l[i] = gone(entry(77, 77, 77))
	}
}
