package density_test

import (
	"math"
	"math/big"
	"slices"
	"testing"

	"petasos/api"
	"petasos/density"
)

const (
	half  = 1 << 31
	top   = math.MaxUint32
	whole = 1 << 32
	wide  = whole / api.MaxBuckets
	cap31 = math.MaxInt32
)

// inBucket is the number of the bucket of v: the first whose end lies behind v.
func inBucket(v uint32) int {
	b := 0
	for uint64(v) >= uint64(b+1)*wide {
		b++
	}
	return b
}

// plainMore is has and n together, in numbers that never go round, held between 0 and 2^31 - 1.
func plainMore(has uint32, n int) uint32 {
	sum := new(big.Int).Add(big.NewInt(int64(has)), big.NewInt(int64(n)))
	switch {
	case sum.Sign() < 0:
		return 0
	case sum.Cmp(big.NewInt(cap31)) > 0:
		return cap31
	}
	return uint32(sum.Uint64())
}

// plainAdd is the chapter's Add.
func plainAdd(d api.Density, v uint32, n int) api.Density {
	d[inBucket(v)] = plainMore(d[inBucket(v)], n)
	return d
}

// plainAll is the chapter's All.
func plainAll(d api.Density) uint64 {
	sum := new(big.Int)
	for _, has := range d {
		sum.Add(sum, big.NewInt(int64(has)))
	}
	return sum.Uint64()
}

// plainSum is the chapter's Sum: each bucket is summed up to its end, and then held.
func plainSum(l []api.Density) api.Density {
	var sum api.Density
	for b := range sum {
		all := new(big.Int)
		for _, d := range l {
			all.Add(all, big.NewInt(int64(d[b])))
		}
		sum[b] = cap31
		if all.Cmp(big.NewInt(cap31)) < 0 {
			sum[b] = uint32(all.Uint64())
		}
	}
	return sum
}

// plainCount is the chapter's Count: for each bucket, all entries are gone through.
func plainCount(l []api.Entry) api.Density {
	var d api.Density
	for b := range d {
		for _, e := range l {
			if !e.Gone && inBucket(e.Value) == b {
				d[b]++
			}
		}
	}
	return d
}

// stretch is all from one number up to another, both among it; they do not go round.
type stretch struct{ from, to int64 }

// stretches is the values of a span laid out from 0 to the greatest one: one stretch, or two.
func stretches(s api.Span) []stretch {
	switch {
	case s.From == s.To:
		return []stretch{{0, top}}
	case s.From < s.To:
		return []stretch{{int64(s.From) + 1, int64(s.To)}}
	}
	return []stretch{{0, int64(s.To)}, {int64(s.From) + 1, top}}
}

// plainShare is how many values of a bucket a span has.
func plainShare(b int, s api.Span) int64 {
	values, first := int64(0), int64(b)*wide
	for _, x := range stretches(s) {
		values += max(0, min(x.to, first+wide-1)-max(x.from, first)+1)
	}
	return values
}

// plainWithin is the chapter's Within.
func plainWithin(d api.Density, s api.Span) uint64 {
	sum := new(big.Int)
	for b, has := range d {
		part := new(big.Int).Mul(big.NewInt(int64(has)), big.NewInt(plainShare(b, s)))
		sum.Add(sum, part.Div(part, big.NewInt(wide)))
	}
	return sum.Uint64()
}

// add adds, and holds what is told against what should be.
func add(t *testing.T, what string, d api.Density, v uint32, n int) api.Density {
	t.Helper()
	was, want := d, plainAdd(d, v, n)
	got := density.Add(d, v, n)
	if got != want {
		t.Errorf("%s: Add(%v, %#x, %d): %v; want %v", what, d, v, n, got, want)
	}
	if d != was {
		t.Errorf("%s: Add(%v, %#x, %d) made what was handed in to %v", what, was, v, n, d)
	}
	return got
}

// within asks what there is in a span, and holds that against what should be.
func within(t *testing.T, what string, d api.Density, s api.Span) uint64 {
	t.Helper()
	was, want := d, plainWithin(d, s)
	got := density.Within(d, s)
	if got != want {
		t.Errorf("%s: Within(%v, %#x): %d; want %d", what, d, s, got, want)
	}
	if all := density.All(d); all != plainAll(d) || got > all {
		t.Errorf("%s: Within(%v, %#x): %d; All: %d; want %d", what, d, s, got, all, plainAll(d))
	}
	if d != was {
		t.Errorf("%s: Within(%v, %#x) made what was handed in to %v", what, was, s, d)
	}
	return got
}

// sum sums, with room behind the list's end, and holds what is told, and the list, against what should be.
func sum(t *testing.T, what string, l []api.Density) api.Density {
	t.Helper()
	room := append(slices.Clone(l), api.Density{1, 2, 3}, api.Density{cap31, 15: top})
	was, want := slices.Clone(room), plainSum(l)
	got := density.Sum(room[:len(l)])
	if got != want {
		t.Errorf("%s: Sum(%v): %v; want %v", what, l, got, want)
	}
	if !slices.Equal(room, was) {
		t.Errorf("%s: Sum made the list %v, and the room behind it, to %v", what, was, room)
	}
	return got
}

// count counts, with room behind the list's end, and holds what is told, and the list, against what should be.
func count(t *testing.T, what string, l []api.Entry) api.Density {
	t.Helper()
	room := append(copied(l), api.Entry{Value: 5}, api.Entry{Value: top, Record: api.Record{Values: []uint32{1}}})
	was, want := copied(room), plainCount(l)
	got := density.Count(room[:len(l)])
	if got != want {
		t.Errorf("%s: Count of %d entries: %v; want %v", what, len(l), got, want)
	}
	if !slices.EqualFunc(room, was, same) {
		t.Errorf("%s: Count changed the list, or the room behind it", what)
	}
	return got
}

// same is whether two entries are the same, field by field.
func same(a, b api.Entry) bool {
	return a.Value == b.Value && a.Gone == b.Gone && a.Record.Id == b.Record.Id && a.Record.Version == b.Record.Version &&
		slices.Equal(a.Record.Values, b.Record.Values)
}

// copied is a list of its own, of entries with values of their own.
func copied(l []api.Entry) []api.Entry {
	c := slices.Clone(l)
	for i := range c {
		c[i].Record.Values = slices.Clone(c[i].Record.Values)
	}
	return c
}

// at is entries under these values.
func at(values ...uint32) []api.Entry {
	var l []api.Entry
	for i, v := range values {
		l = append(l, api.Entry{Value: v, Record: api.Record{Id: uint64(i) + 1, Version: 1, Values: []uint32{v}}})
	}
	return l
}

// gone is entries under these values that are Gone.
func gone(values ...uint32) []api.Entry {
	l := at(values...)
	for i := range l {
		l[i].Gone = true
	}
	return l
}

// each is a density of which each bucket has so much.
func each(has uint32) api.Density {
	var d api.Density
	for b := range d {
		d[b] = has
	}
	return d
}

// only is a density of which one bucket alone has something.
func only(b int, has uint32) api.Density {
	var d api.Density
	d[b] = has
	return d
}

// edges are values at which something might go wrong: the first one, the last one and the middle of each bucket, and what
// lies around them.
func edges() []uint32 {
	var l []uint32
	for b := range uint32(api.MaxBuckets) {
		for step := range uint32(3) {
			l = append(l, b*wide-1+step, b*wide+wide/2-1+step)
		}
	}
	return l
}

// roll makes numbers one after the other, alike for the same seed.
func roll(seed uint64) func(n int) int {
	seed ^= 0x9e3779b97f4a7c15
	return func(n int) int {
		seed = seed*6364136223846793005 + 1442695040888963407
		return int((seed >> 33) % uint64(n))
	}
}

// strewn is a value from all over the circle, some of them close to an edge.
func strewn(next func(int) int) uint32 {
	return uint32(next(api.MaxBuckets))*wide + uint32(uint64(next(half))<<1|uint64(next(2)))>>next(32)*uint32(2*next(2)-1)
}

// amount is how much a bucket might have, some of it close to what is the most.
func amount(next func(int) int) uint32 {
	some := uint32(uint64(next(half))<<1|uint64(next(2))) >> next(32)
	return [...]uint32{0, some, cap31 - some, cap31 + some, top - some}[next(5)]
}

// whatever is a density of which each bucket has what it might have, or just a bit of it.
func whatever(next func(int) int) api.Density {
	var d api.Density
	high := next(3) == 0
	for b := range d {
		d[b] = uint32(next(1000))
		if high {
			d[b] = amount(next)
		}
	}
	return d
}
