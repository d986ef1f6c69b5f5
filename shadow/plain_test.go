package shadow_test

import (
	"cmp"
	"math"
	"slices"
	"testing"

	"petasos/api"
	"petasos/shadow"
)

const top = math.MaxUint32 // the greatest value, and the greatest owner

// held is an entry, and whose it is.
type held struct {
	owner uint32
	entry api.Entry
}

// plain is the chapter's shadow by one list of the entries of all owners, which is gone through one by one.
type plain struct{ list []held }

// put lays e into the list, if nothing of its owner and key is there that is as new, or newer; it is false if there is no
// room.
func (p *plain) put(owner uint32, e api.Entry) bool {
	count := 0
	for i, h := range p.list {
		if h.owner != owner {
			continue
		}
		count++
		if h.entry.Value != e.Value || h.entry.Record.Id != e.Record.Id {
			continue
		}
		if cmp.Or(cmp.Compare(e.Record.Version, h.entry.Record.Version), bit(e.Gone)-bit(h.entry.Gone)) > 0 {
			p.list[i].entry = deep(e)
		}
		return true
	}
	if count == api.MaxEntries {
		return false
	}
	p.list = append(p.list, held{owner, deep(e)})
	return true
}

// bit is 1 of what is so, else 0.
func bit(is bool) int {
	if is {
		return 1
	}
	return 0
}

func (p *plain) of(owner uint32) []api.Entry {
	var l []api.Entry
	for _, h := range p.list {
		if h.owner == owner {
			l = append(l, h.entry)
		}
	}
	slices.SortFunc(l, func(a, b api.Entry) int {
		return cmp.Or(cmp.Compare(a.Value, b.Value), cmp.Compare(a.Record.Id, b.Record.Id))
	})
	return l
}

func (p *plain) drop(owner uint32) int {
	n := len(p.of(owner))
	p.list = slices.DeleteFunc(p.list, func(h held) bool { return h.owner == owner })
	return n
}

func (p *plain) set(owner uint32, l []api.Entry) {
	p.drop(owner)
	for _, e := range l {
		p.put(owner, e)
	}
}

func (p *plain) owners() []uint32 {
	var l []uint32
	for _, h := range p.list {
		l = append(l, h.owner)
	}
	slices.Sort(l)
	return slices.Compact(l)
}

// pair is a shadow, and a plain one, to which the same is done; what both answer is held against each other.
type pair struct {
	shadow *shadow.Shadow
	like   *plain
}

func newPair() pair { return pair{shadow.New(), &plain{}} }

// filled is a pair to which these are put, each of which is newer than what is there.
func filled(t *testing.T, l []held) pair {
	t.Helper()
	p := newPair()
	for i, h := range l {
		if !p.put(t, h.owner, h.entry) {
			t.Fatalf("Put of the entry %d: false", i)
		}
	}
	return p
}

func (p pair) put(t *testing.T, owner uint32, e api.Entry) bool {
	t.Helper()
	got, want := p.shadow.Put(owner, e), p.like.put(owner, e)
	if got != want {
		t.Errorf("Put(%d, %v): %v; want %v", owner, e, got, want)
	}
	return got
}

func (p pair) drop(t *testing.T, owner uint32) int {
	t.Helper()
	got, want := p.shadow.Drop(owner), p.like.drop(owner)
	if got != want {
		t.Errorf("Drop(%d): %d; want %d", owner, got, want)
	}
	return got
}

func (p pair) set(owner uint32, l ...api.Entry) {
	p.like.set(owner, l)
	p.shadow.Set(owner, l)
}

func (p pair) fork() pair {
	return pair{p.shadow.Fork(), &plain{slices.Clone(p.like.list)}}
}

// plainCopy is another one, too, but Fork has not made it.
func (p pair) plainCopy() pair {
	s := *p.shadow
	return pair{&s, &plain{slices.Clone(p.like.list)}}
}

// check asks for all that is there, and for owners of whom nothing may be there.
func (p pair) check(t *testing.T, what string) {
	t.Helper()
	if t.Failed() {
		t.Fatalf("%s: stopped", what)
	}
	want := p.like.owners()
	if got := p.shadow.Owners(); !slices.Equal(got, want) {
		t.Errorf("%s: Owners: %v; want %v", what, got, want)
	}
	for _, owner := range append(want, owners...) {
		alike(t, what, owner, p.shadow.Of(owner), p.like.of(owner))
	}
	if t.Failed() {
		t.Fatalf("%s: it has not what it should have", what)
	}
}

func alike(t *testing.T, what string, owner uint32, got, want []api.Entry) {
	t.Helper()
	if !slices.EqualFunc(got, want, same) {
		t.Errorf("%s: Of(%d): %d of them: %v; want %d: %v", what, owner, len(got), short(got), len(want), short(want))
	}
}

// short leaves out what nobody would read.
func short(l []api.Entry) []api.Entry { return l[:min(len(l), 9)] }

// same holds all that entries have against each other.
func same(a, b api.Entry) bool {
	x, y := a.Record, b.Record
	return a.Value == b.Value && a.Gone == b.Gone && x.Id == y.Id && x.Version == y.Version && slices.Equal(x.Values, y.Values)
}

// deep is e with Values of its own.
func deep(e api.Entry) api.Entry {
	e.Record.Values = append([]uint32{}, e.Record.Values...)
	return e
}

// entry is one of a record with these Values.
func entry(value uint32, id, version uint64, values ...uint32) api.Entry {
	return api.Entry{Value: value, Record: api.Record{Id: id, Version: version, Values: values}}
}

func gone(e api.Entry) api.Entry {
	e.Gone = true
	return e
}

// many is n entries, by rising keys; each seventh is gone.
func many(n int) []api.Entry {
	var l []api.Entry
	for i := range n {
		e := entry(uint32(i/3)*1000, uint64(i), uint64(i%5+1), uint32(i), 8)
		e.Gone = i%7 == 0
		l = append(l, e)
	}
	return l
}

// owners are such as might be taken for another one.
var owners = []uint32{0, 1, 2, 5, 1<<16 - 1, 1 << 16, 1<<31 - 1, 1 << 31, 1<<31 + 5, top - 1, top}

// values and ids are such as something might go wrong at.
var (
	values = []uint32{0, 1, 5, 1<<31 - 1, 1 << 31, top - 1, top}
	ids    = []uint64{0, 1, 2, 1<<32 - 1, 1 << 32, 1<<32 + 1, 1<<63 - 1, 1 << 63, math.MaxUint64}
)

// grid is an entry of each value with each id, the greatest first.
func grid() []api.Entry {
	var l []api.Entry
	for i, value := range slices.Backward(values) {
		for k, id := range slices.Backward(ids) {
			e := entry(value, id, uint64(i+k), value, uint32(k))
			e.Gone = (i+k)%3 == 0
			l = append(l, e)
		}
	}
	return l
}

// strewn makes numbers one after the other, alike for the same seed.
func strewn(seed uint64) func(n int) int {
	return func(n int) int {
		seed = seed*6364136223846793005 + 1442695040888963407
		return int(seed>>33) % n
	}
}

// mixed is l in another order.
func mixed(l []api.Entry, next func(int) int) []api.Entry {
	l = slices.Clone(l)
	for i := range l {
		k := next(i + 1)
		l[i], l[k] = l[k], l[i]
	}
	return l
}

// strewnEntry is one of few keys and versions, so that there are often two of one key.
func strewnEntry(next func(int) int) api.Entry {
	e := entry(values[next(len(values))], ids[next(3)], uint64(next(4)))
	for range next(4) {
		e.Record.Values = append(e.Record.Values, uint32(next(100)))
	}
	e.Gone = next(3) == 0
	return e
}

// spoil writes into l, and into the room behind its end.
func spoil(l []uint32) {
	l = l[:cap(l)]
	for i := range l {
		l[i] ^= 0xeeeeeeee
	}
}

// spoilAll writes into all that a list of entries has, and into the room behind its end.
func spoilAll(l []api.Entry) {
	l = l[:cap(l)]
	for i := range l {
		spoil(l[i].Record.Values)
		l[i] = gone(entry(77, 77, 77))
	}
}
