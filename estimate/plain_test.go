package estimate_test

import (
	"math"
	"math/big"
	"slices"
	"testing"

	"petasos/api"
	"petasos/estimate"
)

const (
	half   = 1 << 31
	top    = math.MaxUint32
	whole  = 1 << 32
	wide   = whole / api.MaxBuckets
	cap31  = math.MaxInt32
	full   = 65536
	grains = whole / full
)

// stretch is all from one number up to another, both among it; they do not go round.
type stretch struct{ from, to int64 }

// stretches is the values of a range laid out from 0 to the greatest one: none, one stretch, or two.
func stretches(r api.Range) []stretch {
	switch {
	case r.Kind == api.Any:
		return []stretch{{0, top}}
	case r.Kind != api.Between:
		return nil
	case r.Lo <= r.Hi:
		return []stretch{{int64(r.Lo), int64(r.Hi)}}
	}
	return []stretch{{0, int64(r.Hi)}, {int64(r.Lo), top}}
}

// plainSize is how many values of a range are from one number up to another.
func plainSize(r api.Range, from, to int64) int64 {
	values := int64(0)
	for _, x := range stretches(r) {
		values += max(0, min(x.to, to)-max(x.from, from)+1)
	}
	return values
}

// plainWithin is what d has in a range, bucket by bucket, and what it has in all.
func plainWithin(d api.Density, r api.Range) (in, all *big.Int) {
	in, all = new(big.Int), new(big.Int)
	for b, has := range d {
		first := int64(b) * wide
		share := big.NewInt(plainSize(r, first, first+wide-1))
		share.Mul(share, big.NewInt(int64(has)))
		in.Add(in, share.Div(share, big.NewInt(wide)))
		all.Add(all, big.NewInt(int64(has)))
	}
	return in, all
}

// plainPart is the chapter's Part: how often a part of all that there is, or of all values, goes into what is in the range.
func plainPart(d api.Density, r api.Range) uint32 {
	in, all := plainWithin(d, r)
	if all.Sign() == 0 {
		in, all = big.NewInt(plainSize(r, 0, top)), big.NewInt(whole)
	}
	in.Mul(in, big.NewInt(full))
	return uint32(in.Div(in, all).Uint64())
}

// plainRight is whether a box of so many ranges may be asked for.
func plainRight(attrs int, b []api.Range) bool {
	wrong := slices.ContainsFunc(b, func(r api.Range) bool {
		return !slices.Contains([]int{api.Any, api.Between, api.Nothing}, r.Kind)
	})
	return !wrong && len(b) == attrs && attrs >= 1 && attrs <= api.MaxAttrs
}

// plainBest is the chapter's Best: the places, put in order by their parts, those alike by themselves.
func plainBest(l []api.Density, b []api.Range) (int, api.Errno) {
	if !plainRight(len(l), b) {
		return 0, api.ErrBox
	}
	var places []int
	for i := range l {
		places = append(places, i)
	}
	slices.SortStableFunc(places, func(i, j int) int {
		return int(plainPart(l[i], b[i])) - int(plainPart(l[j], b[j]))
	})
	return places[0], api.OK
}

// part asks for a part, and holds what is told, and what was handed in, against what should be.
func part(t *testing.T, what string, d api.Density, r api.Range) uint32 {
	t.Helper()
	was, want := d, plainPart(d, r)
	got := estimate.Part(d, r)
	if got != want {
		t.Errorf("%s: Part(%v, %v): %d; want %d", what, d, r, got, want)
	}
	if got > full {
		t.Errorf("%s: Part(%v, %v): %d, which is more than all", what, d, r, got)
	}
	if d != was {
		t.Errorf("%s: Part(%v, %v) made what was handed in to %v", what, was, r, d)
	}
	return got
}

// best asks for the best hub, with room behind the ends of the lists, and holds what is told, and the lists, against what
// should be.
func best(t *testing.T, what string, l []api.Density, b []api.Range) (int, api.Errno) {
	t.Helper()
	hubs := append(slices.Clone(l), api.Density{1}, api.Density{15: top})
	ranges := append(slices.Clone(b), api.Range{Kind: api.Nothing}, between(5, 9), api.Range{})
	wasHubs, wasRanges := slices.Clone(hubs), slices.Clone(ranges)
	want, wantErr := plainBest(l, b)
	got, err := estimate.Best(hubs[:len(l)], ranges[:len(b)])
	if got != want || err != wantErr {
		t.Errorf("%s: Best(%v, %v): %d, %d; want %d, %d", what, l, b, got, err, want, wantErr)
	}
	if !slices.Equal(hubs, wasHubs) {
		t.Errorf("%s: Best made the hubs %v, and the room behind them, to %v", what, wasHubs, hubs)
	}
	if !slices.Equal(ranges, wasRanges) {
		t.Errorf("%s: Best made the box %v, and the room behind it, to %v", what, wasRanges, ranges)
	}
	return got, err
}

// between is the range from one value up to another.
func between(lo, hi uint32) api.Range { return api.Range{Kind: api.Between, Lo: lo, Hi: hi} }

// long is the range of so many values, from lo on.
func long(lo uint32, values uint64) api.Range { return between(lo, lo+uint32(values-1)) }

// every and none are the ranges that have all values, and none.
func every() api.Range { return api.Range{Kind: api.Any} }
func none() api.Range  { return api.Range{Kind: api.Nothing} }

// each is a density of which each bucket has so much.
func each(has uint32) api.Density {
	var d api.Density
	for b := range d {
		d[b] = has
	}
	return d
}

// only is a density of which one bucket alone has something.
func only(b int, has uint32) api.Density {
	var d api.Density
	d[b] = has
	return d
}

// bucket is the range of all values of some buckets, from one on.
func bucket(b, buckets int) api.Range { return long(uint32(b)*wide, uint64(buckets)*wide) }

// edges are values at which something might go wrong: the first one, the last one and the middle of each bucket, and what
// lies around them.
func edges() []uint32 {
	var l []uint32
	for b := range uint32(api.MaxBuckets) {
		for step := range uint32(3) {
			l = append(l, b*wide-1+step, b*wide+wide/2-1+step)
		}
	}
	return l
}

// roll makes numbers one after the other, alike for the same seed.
func roll(seed uint64) func(n int) int {
	seed ^= 0x9e3779b97f4a7c15
	return func(n int) int {
		seed = seed*6364136223846793005 + 1442695040888963407
		return int((seed >> 33) % uint64(n))
	}
}

// strewn is a value from all over the circle, some of them close to an edge.
func strewn(next func(int) int) uint32 {
	return uint32(next(api.MaxBuckets))*wide + uint32(uint64(next(half))<<1|uint64(next(2)))>>next(32)*uint32(2*next(2)-1)
}

// strewnRange is a range of any kind, at times of one that there is not.
func strewnRange(next func(int) int) api.Range {
	r := between(strewn(next), strewn(next))
	switch next(12) {
	case 0:
		r.Kind = api.Any
	case 1:
		r.Kind = api.Nothing
	case 2:
		r.Hi = r.Lo
	case 3:
		r.Hi = r.Lo - 1 - uint32(next(3))
	case 4:
		r.Hi = r.Lo + uint32(next(3)*grains) - uint32(next(3))
	}
	return r
}

// amount is how much a bucket might have, some of it close to what is the most.
func amount(next func(int) int) uint32 {
	some := uint32(uint64(next(half))<<1|uint64(next(2))) >> next(32)
	return [...]uint32{0, some, cap31 - some, cap31 + some, top - some}[next(5)]
}

// whatever is a density: nothing, a bit in a few buckets, or in each what it might have.
func whatever(next func(int) int) api.Density {
	var d api.Density
	kind := next(4)
	for b := range d {
		switch kind {
		case 1:
			d[b] = uint32(next(1000))
		case 2:
			d[b] = uint32(next(9)) >> next(6)
		case 3:
			d[b] = amount(next)
		}
	}
	return d
}
