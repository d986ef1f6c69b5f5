package density_test

import (
	"math"
	"slices"
	"sync"
	"testing"

	"petasos/api"
	"petasos/circle"
	"petasos/density"
)

// TestExample is the chapter's.
func TestExample(t *testing.T) {
	d := density.Add(api.Density{}, 0, 8)
	if got := density.Within(d, api.Span{From: top, To: wide/2 - 1}); got != 4 {
		t.Errorf("Within of half of the first bucket, of %v: %d; want 4", d, got)
	}
}

// TestP14_1Add: v's bucket has n more.
func TestP14_1Add(t *testing.T) {
	some := api.Density{5, 0, 7, 1, 9, 12, 100, 3, 4, 0, 0, 8, 6, cap31, 2, 11}
	for _, r := range []struct {
		what string
		d    api.Density
		v    uint32
		n    int
		b    int
		want uint32
	}{
		{"to nothing", api.Density{}, 0, 8, 0, 8},
		{"one", api.Density{}, 12345, 1, 0, 1},
		{"few", some, 0x2345_6789, 3, 2, 10},
		{"many", some, 0x6fff_0000, 1_000_000, 6, 1_000_100},
		{"none", some, 0x4000_0000, 0, 4, 9},
		{"none, to a bucket that has none", some, 0x9000_0000, 0, 9, 0},
		{"none, to a bucket that is full", some, 0xd000_0001, 0, 13, cap31},
		{"less", some, 0xf000_0001, -4, 15, 7},
		{"all of it less", some, 0xf777_7777, -11, 15, 0},
		{"more than all of it less", some, 0xf777_7777, -12, 15, 0},
		{"less, of none", some, 0x1000_0000, -1, 1, 0},
		{"less, of one that is full", some, 0xdfff_ffff, -1, 13, cap31 - 1},
		{"all of it less, of one that is full", some, 0xdfff_ffff, -cap31, 13, 0},
		{"the most", api.Density{}, half, cap31, 8, cap31},
		{"just less than the most", api.Density{}, half, cap31 - 1, 8, cap31 - 1},
		{"just above the most", api.Density{}, half, cap31 + 1, 8, cap31},
		{"up to the most", some, 0x8765_4321, cap31 - 4, 8, cap31},
		{"just up to below the most", some, 0x8765_4321, cap31 - 5, 8, cap31 - 1},
		{"just up to above the most", some, 0x8765_4321, cap31 - 3, 8, cap31},
		{"one, to a bucket that is full", some, 0xd123_4567, 1, 13, cap31},
		{"all that 32 bits hold", some, 0x0fff_ffff, top, 0, cap31},
		{"what 32 bits do not hold", some, 0x0fff_ffff, whole, 0, cap31},
		{"what 32 bits do not hold, and one", some, 0x0fff_ffff, whole + 1, 0, cap31},
		{"what 32 bits do not hold, less", some, 0x0fff_ffff, -whole, 0, 0},
		{"what 32 bits do not hold, but for some, less", some, 0x0fff_ffff, -whole + 3, 0, 0},
		{"the greatest int", some, 0x3000_0000, math.MaxInt, 3, cap31},
		{"the greatest int, to nothing", api.Density{}, 0x3000_0000, math.MaxInt, 3, cap31},
		{"the greatest int, to a bucket that is full", some, 0xd000_0000, math.MaxInt, 13, cap31},
		{"the least int", some, 0x3000_0000, math.MinInt, 3, 0},
		{"the least int, of nothing", api.Density{}, 0x3000_0000, math.MinInt, 3, 0},
		{"the least int, of a bucket that is full", some, 0xd000_0000, math.MinInt, 13, 0},
		{"none, to one above the most", each(cap31 + 1), 0x5000_0000, 0, 5, cap31},
		{"one less, of one above the most", each(cap31 + 1), 0x5000_0000, -1, 5, cap31},
		{"two less, of one above the most", each(cap31 + 1), 0x5000_0000, -2, 5, cap31 - 1},
		{"none, to the greatest there is", each(top), 0x5000_0000, 0, 5, cap31},
		{"one, to the greatest there is", each(top), 0x5000_0000, 1, 5, cap31},
		{"less, of the greatest there is", each(top), 0x5000_0000, -half, 5, cap31},
		{"a bit more less, of the greatest there is", each(top), 0x5000_0000, -half - 1, 5, cap31 - 1},
		{"all of it less, of the greatest there is", each(top), 0x5000_0000, -top, 5, 0},
		{"more than all of it less, of the greatest there is", each(top), 0x5000_0000, -top - 1, 5, 0},
		{"the greatest int, to the greatest there is", each(top), 0x5000_0000, math.MaxInt, 5, cap31},
		{"the greatest int but for that, to the greatest there is", each(top), 0x5000_0000, math.MaxInt - top, 5, cap31},
		{"the greatest int but for less, to the greatest there is", each(top), 0x5000_0000, math.MaxInt - top + 1, 5, cap31},
		{"the least int, of the greatest there is", each(top), 0x5000_0000, math.MinInt, 5, 0},
	} {
		want := r.d
		want[r.b] = r.want
		if got := density.Add(r.d, r.v, r.n); got != want {
			t.Errorf("%s: Add(%v, %#x, %d): %v; want %v", r.what, r.d, r.v, r.n, got, want)
		}
		add(t, r.what, r.d, r.v, r.n)
	}
}

// TestP14_1AddBucket: the first and the last value of each bucket, and what lies between; the other buckets stay, even where
// they were handed in above the most.
func TestP14_1AddBucket(t *testing.T) {
	firsts := []uint32{
		0, 0x1000_0000, 0x2000_0000, 0x3000_0000, 0x4000_0000, 0x5000_0000, 0x6000_0000, 0x7000_0000,
		0x8000_0000, 0x9000_0000, 0xa000_0000, 0xb000_0000, 0xc000_0000, 0xd000_0000, 0xe000_0000, 0xf000_0000,
	}
	for b, first := range firsts {
		for _, d := range []api.Density{{}, each(1), each(cap31), each(top), {3: 7, 4: half, 12: top, 15: 9}} {
			for _, step := range []uint32{0, 1, 2, 0xffff, 0x10000, 0x7ff_ffff, 0x800_0000, 0xfff_fffe, 0xfff_ffff} {
				want := d
				want[b] = min(want[b]+min(3, top-want[b]), cap31)
				if got := density.Add(d, first+step, 3); got != want {
					t.Errorf("Add(%v, %#x, 3): %v; want %v", d, first+step, got, want)
				}
			}
		}
	}
}

// TestP14_1AddNumbers: whatever a bucket has, and whatever n is.
func TestP14_1AddNumbers(t *testing.T) {
	has := []uint32{0, 1, 2, 5, 1000, cap31 - 1, cap31, cap31 + 1, cap31 + 2, top - 1, top}
	var numbers []int
	for _, n := range []int{0, 1 << 8, 1 << 16, 1 << 30, half, whole - half, whole, whole + half, 2 * whole, 1 << 48, 1 << 62, math.MinInt} {
		for step := -3; step <= 3; step++ {
			numbers = append(numbers, n+step, -n+step, n+step-whole, n+step+whole)
		}
	}
	for i := range numbers {
		for j, x := range has {
			d, v := each(has[(i+j)%len(has)]), edges()[(i+j)%len(edges())]
			d[inBucket(v)] = x
			add(t, "numbers", d, v, numbers[i])
		}
	}
}

// TestP14_1AddAgain: bit by bit, as all at once; and back, if neither end was come to.
func TestP14_1AddAgain(t *testing.T) {
	for seed := range uint64(50) {
		next := roll(seed)
		var d, want api.Density
		for range 400 {
			v, n := strewn(next), next(2000)-500
			d = add(t, "again", d, v, n)
			want[inBucket(v)] = uint32(max(0, int(want[inBucket(v)])+n))
		}
		if d != want {
			t.Errorf("the seed %d: %v; want %v", seed, d, want)
		}
	}
	d := each(half - 10)
	for range 10 {
		d = add(t, "to the end", d, 7, 3)
	}
	for range 10 {
		d = add(t, "back from the end", d, 7, -3)
	}
	if want := uint32(cap31 - 30); d[0] != want {
		t.Errorf("up to the end, and back: %d; want %d", d[0], want)
	}
}

// TestP14_1All: all buckets together.
func TestP14_1All(t *testing.T) {
	for _, r := range []struct {
		what string
		d    api.Density
		want uint64
	}{
		{"nothing", api.Density{}, 0},
		{"the first bucket", api.Density{5}, 5},
		{"the last bucket", api.Density{15: 5}, 5},
		{"some", api.Density{3, 0, 4, 10: 5, 15: 6}, 18},
		{"each one", api.Density{1, 2, 3, 4, 5, 6, 7, 8, 9, 10, 11, 12, 13, 14, 15, 16}, 136},
		{"just what 32 bits hold", api.Density{cap31, 5: cap31, 9: 1}, top},
		{"just what 32 bits do not hold", api.Density{cap31, 5: cap31, 9: 2}, whole},
		{"all full", each(cap31), 16 * cap31},
		{"above the most", api.Density{half, half, top}, 2*half + top},
		{"the greatest there is", each(top), 16 * top},
	} {
		if got := density.All(r.d); got != r.want {
			t.Errorf("%s: All(%v): %d; want %d", r.what, r.d, got, r.want)
		}
	}
	for b := range api.MaxBuckets {
		for _, has := range []uint32{1, 77, cap31, half, top} {
			if got := density.All(only(b, has)); got != uint64(has) {
				t.Errorf("All of the bucket %d alone, which has %d: %d", b, has, got)
			}
		}
	}
}

// TestP14_1Count: one for each that is not Gone, by its Value.
func TestP14_1Count(t *testing.T) {
	other := at(half + 5)[0]
	other.Record = api.Record{Id: 7, Version: 9, Values: []uint32{1, 0x3000_0000, top}}
	bare := api.Entry{Value: 0xa000_0000}
	for _, r := range []struct {
		what string
		l    []api.Entry
		want api.Density
	}{
		{"nil", nil, api.Density{}},
		{"an empty list", []api.Entry{}, api.Density{}},
		{"one", at(5), api.Density{1}},
		{"one, the last value", at(top), api.Density{15: 1}},
		{"one that is Gone", gone(5), api.Density{}},
		{"all Gone", gone(5, half, top), api.Density{}},
		{"several in one bucket", at(0x4000_0000, 0x4fff_ffff, 0x4000_0000, 0x4777_0000), api.Density{4: 4}},
		{"several, Gone and not, in one bucket", append(at(3, 9), gone(3, 8, 10)...), api.Density{2}},
		{"Gone ahead of the others", append(gone(3, half), at(3, top)...), api.Density{1, 15: 1}},
		{"the first and the last value of a bucket", at(0x6fff_ffff, 0x7000_0000, 0x7fff_ffff, 0x8000_0000), api.Density{6: 1, 7: 2, 8: 1}},
		{"in several", at(0, 0x1000_0000, 0x2000_0000, 0x1000_0001, top), api.Density{1, 2, 1, 15: 1}},
		{"by Value, not by the record's values", []api.Entry{other}, api.Density{8: 1}},
		{"of no record", []api.Entry{bare, {}}, api.Density{1, 10: 1}},
		{"of one key twice", []api.Entry{other, other, bare, bare}, api.Density{8: 2, 10: 2}},
		{"two records under one value", append(at(9, 9), at(9)...), api.Density{3}},
	} {
		if got := density.Count(r.l); got != r.want {
			t.Errorf("%s: Count: %v; want %v", r.what, got, r.want)
		}
		count(t, r.what, r.l)
		slices.Reverse(r.l)
		count(t, r.what+", backwards", r.l)
	}
	count(t, "all edges", at(edges()...))
	count(t, "all edges, Gone", gone(edges()...))
	count(t, "a long list", slices.Repeat(append(at(edges()...), gone(edges()...)...), 200))
}

// TestP14_1Sum: bucket by bucket.
func TestP14_1Sum(t *testing.T) {
	some := api.Density{5, 0, 7, 1, 9, 12, 100, 3, 4, 0, 0, 8, 6, cap31, 2, 11}
	ends := api.Density{cap31 + 1, cap31, cap31 - 1, 14: half + 7, 15: top}
	for _, r := range []struct {
		what string
		l    []api.Density
		want api.Density
	}{
		{"nil", nil, api.Density{}},
		{"an empty list", []api.Density{}, api.Density{}},
		{"nothing", []api.Density{{}}, api.Density{}},
		{"nothing, often", make([]api.Density, 9), api.Density{}},
		{"one", []api.Density{some}, some},
		{"one, and nothing", []api.Density{{}, some, {}}, some},
		{"one whose buckets are above the most", []api.Density{ends}, api.Density{cap31, cap31, cap31 - 1, 14: cap31, 15: cap31}},
		{"one all of whose buckets are above the most", []api.Density{each(top)}, each(cap31)},
		{"two", []api.Density{{1, 2, 3, 15: 4}, {10, 0, 30, 7: 5, 15: 40}}, api.Density{11, 2, 33, 7: 5, 15: 44}},
		{"one twice", []api.Density{{1, 2, 3, 15: 4}, {1, 2, 3, 15: 4}}, api.Density{2, 4, 6, 15: 8}},
		{"three", []api.Density{{1}, {1: 1}, {1, 1, 1}}, api.Density{2, 2, 1}},
		{"just up to the most", []api.Density{{cap31 - 5, 8}, {5, 9}}, api.Density{cap31, 17}},
		{"just below the most", []api.Density{{cap31 - 5, 8}, {4, 9}}, api.Density{cap31 - 1, 17}},
		{"just above the most", []api.Density{{cap31 - 5, 8}, {6, 9}}, api.Density{cap31, 17}},
		{"full, and nothing", []api.Density{each(cap31), {}}, each(cap31)},
		{"full, and one", []api.Density{each(cap31), each(1)}, each(cap31)},
		{"full, twice", []api.Density{each(cap31), each(cap31)}, each(cap31)},
		{"what goes round to nothing", []api.Density{each(half), each(half)}, each(cap31)},
		{"what goes round to a few", []api.Density{each(top), each(6)}, each(cap31)},
		{"what goes round to a few, by many", []api.Density{each(cap31), each(cap31), each(2), each(5)}, each(cap31)},
		{"the greatest there is, often", slices.Repeat([]api.Density{each(top)}, 300), each(cap31)},
		{"some above the most, others not", []api.Density{some, ends}, api.Density{cap31, cap31, cap31, 1, 9, 12, 100, 3, 4, 0, 0, 8, 6, cap31, cap31, cap31}},
		{"many, up to the most", slices.Repeat([]api.Density{only(3, half/8), {}}, 8), only(3, cap31)},
		{"many, just below the most", append(slices.Repeat([]api.Density{only(3, half/8)}, 7), only(3, half/8-2)), only(3, cap31-1)},
	} {
		if got := density.Sum(r.l); got != r.want {
			t.Errorf("%s: Sum: %v; want %v", r.what, got, r.want)
		}
		sum(t, r.what, r.l)
		slices.Reverse(r.l)
		sum(t, r.what+", backwards", r.l)
	}
}

// TestP14_2Within: what a bucket has, times its share, without rest.
func TestP14_2Within(t *testing.T) {
	rise := api.Density{1, 2, 4, 8, 16, 32, 64, 128, 256, 512, 1024, 2048, 4096, 8192, 16384, 32768}
	ones := each(wide)
	for _, r := range []struct {
		what     string
		d        api.Density
		from, to uint32
		want     uint64
	}{
		{"of nothing", api.Density{}, 5, half, 0},
		{"of nothing, all", api.Density{}, 5, 5, 0},
		{"half of the first bucket", api.Density{8}, top, 0x7ff_ffff, 4},
		{"the first bucket", rise, top, 0xfff_ffff, 1},
		{"the first bucket but for its first value", rise, 0, 0xfff_ffff, 0},
		{"the first bucket but for its last value", rise, top, 0xfff_fffe, 0},
		{"the last bucket", rise, 0xefff_ffff, top, 32768},
		{"a bucket", rise, 0x3fff_ffff, 0x4fff_ffff, 16},
		{"a bucket, and a value ahead of it", rise, 0x3fff_fffe, 0x4fff_ffff, 16},
		{"a bucket, and a value behind it", rise, 0x3fff_ffff, 0x5000_0000, 16},
		{"a bucket but for its first value", rise, 0x4000_0000, 0x4fff_ffff, 15},
		{"a bucket but for its last value", rise, 0x3fff_ffff, 0x4fff_fffe, 15},
		{"a bucket but for both", rise, 0x4000_0000, 0x4fff_fffe, 15},
		{"two buckets", rise, 0x3fff_ffff, 0x5fff_ffff, 48},
		{"some buckets", rise, 0x3fff_ffff, 0x9fff_ffff, 0x3f0},
		{"some buckets, round the end", rise, 0xcfff_ffff, 0x1fff_ffff, 8192 + 16384 + 32768 + 3},
		{"the last bucket and the first one", rise, 0xefff_ffff, 0xfff_ffff, 32769},
		{"halves of both, round the end", rise, 0xf7ff_ffff, 0x7ff_ffff, 16384},
		{"halves of two buckets", rise, 0x47ff_ffff, 0x57ff_ffff, 24},
		{"quarters and a whole one", rise, 0x4bff_ffff, 0x63ff_ffff, 4 + 32 + 16},
		{"within a bucket, a quarter", rise, 0x43ff_ffff, 0x47ff_ffff, 4},
		{"within a bucket, a bit less than a quarter", rise, 0x43ff_ffff, 0x47ff_fffe, 3},
		{"within a bucket, a quarter of a quarter, of few", rise, 0x13ff_ffff, 0x14ff_ffff, 0},
		{"one value", rise, 0xffff_fffe, top, 0},
		{"one value, of as many as there are values", ones, 76, 77, 1},
		{"one value, of one less", each(wide - 1), 76, 77, 0},
		{"one value, of twice as many but for one", each(2*wide - 1), 76, 77, 1},
		{"one value, the first one of a bucket", ones, 0x8fff_ffff, 0x9000_0000, 1},
		{"one value, the last one of a bucket", ones, 0x8fff_fffe, 0x8fff_ffff, 1},
		{"one value, 0", ones, top, 0, 1},
		{"one value, the greatest", ones, top - 1, top, 1},
		{"two values, of two buckets", ones, 0x8fff_fffe, 0x9000_0000, 2},
		{"two values, round the end", ones, top - 1, 0, 2},
		{"one value, of a full bucket", each(cap31), top, 0, 7},
		{"one value, of the greatest there is", each(top), top, 0, 15},
		{"what is left over, of two buckets", each(2*wide - 1), 0x8fff_fffe, 0x9000_0000, 2},
		{"what is left over, of all buckets, each cut off", each(1), 0x4000_0001, 0x4000_0000, 15},
		{"what is left over, of two halves", each(1), 0x47ff_ffff, 0x57ff_ffff, 0},
		{"what is left over, of two halves of threes", each(3), 0x47ff_ffff, 0x57ff_ffff, 2},
		{"all but one value", ones, 77, 76, whole - 1},
		{"all but one value, of few", each(100), 77, 76, 1599},
		{"all but one value, 0", rise, 0, top, 65534},
		{"all but one value, the greatest", rise, top, top - 1, 65534},
		{"all but two values, in one bucket", rise, 0x4000_0002, 0x4000_0000, 65534},
		{"all but two values, of two buckets", rise, 0x5000_0000, 0x4fff_fffe, 65533},
		{"both ends in one bucket, round the others", rise, 0x4bff_ffff, 0x43ff_ffff, 65535 - 4 - 4},
		{"both ends in one bucket, round the others, half and half of one", only(4, 1), 0x4bff_ffff, 0x43ff_ffff, 0},
		{"both ends in one bucket, round the others, what both pieces leave over", only(4, 1), 0x4777_7778, 0x4777_7777, 0},
		{"both ends in one bucket, round the others, both pieces together", only(4, 6), 0x4c00_0000 - 1, 0x4400_0000 - 1, 3},
		{"both ends in one bucket, both pieces are halves of odd ones", only(4, 4), 0x49ff_ffff, 0x45ff_ffff, 3},
		{"both ends in the first bucket", rise, 0xbff_ffff, 0x3ff_ffff, 65534},
		{"both ends in the last bucket", rise, 0xfbff_ffff, 0xf3ff_ffff, 32767 + 16384},
		{"all, from 0 on", rise, top, top, 65535},
		{"all, from 1 on", rise, 0, 0, 65535},
		{"all, from a bucket's middle on", rise, 0x4777_7777, 0x4777_7777, 65535},
		{"all, from a bucket's first value on", rise, 0x3fff_ffff, 0x3fff_ffff, 65535},
		{"all, from a bucket's second value on", rise, 0x4000_0000, 0x4000_0000, 65535},
		{"all, of full ones", each(cap31), half, half, 16 * cap31},
		{"all, of the greatest there is", each(top), half - 3, half - 3, 16 * top},
		{"all but a bucket, of the greatest there is", each(top), 0x4fff_ffff, 0x3fff_ffff, 15 * top},
		{"half of the circle, of full ones", each(cap31), half, 0, 7*cap31 + cap31 - 8 + 7},
		{"half of the circle", rise, half - 1, top, 0xff00},
		{"half of the circle, the other one", rise, top, half - 1, 0xff},
	} {
		if got := density.Within(r.d, api.Span{From: r.from, To: r.to}); got != r.want {
			t.Errorf("%s: Within(%v, {%#x %#x}): %d; want %d", r.what, r.d, r.from, r.to, got, r.want)
		}
		within(t, r.what, r.d, api.Span{From: r.from, To: r.to})
	}
}

// TestP14_2WithinSize: of buckets that have one for each value, a span has as many as it has values, wherever it begins and
// ends; of a bucket alone, as many as are in both.
func TestP14_2WithinSize(t *testing.T) {
	for _, from := range edges() {
		for _, to := range edges() {
			s := api.Span{From: from, To: to}
			if got := density.Within(each(wide), s); got != circle.Size(s) {
				t.Fatalf("Within({%#x %#x}): %d; want %d", from, to, got, circle.Size(s))
			}
			for b := range api.MaxBuckets {
				want := plainShare(b, s)
				if got := density.Within(only(b, wide), s); got != uint64(want) {
					t.Fatalf("Within({%#x %#x}), of the bucket %d alone: %d; want %d", from, to, b, got, want)
				}
			}
		}
	}
}

// TestP14_2WithinSteps goes step by step over the edge of each bucket.
func TestP14_2WithinSteps(t *testing.T) {
	for b := range uint32(api.MaxBuckets) {
		edge := b*wide - 8
		for from := range uint32(16) {
			for to := range uint32(16) {
				want := uint64(to - from)
				if to <= from {
					want = whole - uint64(from-to)
				}
				s := api.Span{From: edge + from, To: edge + to}
				if got := density.Within(each(wide), s); got != want {
					t.Errorf("Within({%#x %#x}): %d; want %d", s.From, s.To, got, want)
				}
				within(t, "steps", each(7*wide+5), s)
				within(t, "steps, of few", each(9), s)
			}
		}
	}
}

// TestP14_2WithinRest: what a bucket's share leaves over is cut off for itself: just where one more comes to it, one more is
// told, and what two buckets leave over does not come together.
func TestP14_2WithinRest(t *testing.T) {
	for b := range uint32(api.MaxBuckets) {
		for _, has := range []uint32{1, 2, 3, 5, 7, 100, 1000, 65537} {
			for want := range uint64(min(has, 9)) + 1 {
				// So many values make has times them just want times 2^28, or a bit more.
				values := uint32((want*wide + uint64(has) - 1) / uint64(has))
				s := api.Span{From: b*wide - 1, To: b*wide - 1 + values}
				less := api.Span{From: s.From, To: s.To - 1}
				if values > 0 && density.Within(only(int(b), has), s) != want {
					t.Errorf("Within(%d values, of %d): %d; want %d", values, has, density.Within(only(int(b), has), s), want)
				}
				if values > 1 && density.Within(only(int(b), has), less) != want-1 {
					t.Errorf("Within(%d values, of %d): %d; want %d", values-1, has, density.Within(only(int(b), has), less), want-1)
				}
			}
			two := api.Span{From: b*wide - 2, To: b * wide}
			if got := density.Within(each(wide-1), two); got != 0 {
				t.Errorf("Within(two values, one of each of two buckets): %d; want 0", got)
			}
		}
	}
}

// TestEverywhere asks of strewn densities, and holds what is told against a plain reference.
func TestEverywhere(t *testing.T) {
	var round, inOne, all, above, cut int
	for seed := range uint64(3000) {
		next := roll(seed)
		l := make([]api.Density, next(6))
		for i := range l {
			l[i] = whatever(next)
		}
		d := sum(t, "strewn", l)
		if len(l) > 0 && next(2) == 0 {
			d = l[0]
		}
		for range 10 {
			s := api.Span{From: strewn(next), To: strewn(next)}
			switch next(8) {
			case 0:
				s.To = s.From
				all++
			case 1:
				s.To = s.From - uint32(next(1000))
			}
			if s.To < s.From {
				round++
				if inBucket(s.To) == inBucket(s.From) {
					inOne++
				}
			}
			if density.All(d) > top {
				above++
			}
			if got := within(t, "strewn", d, s); got > 0 && got < density.All(d) {
				cut++
			}
			d = add(t, "strewn", d, strewn(next), int(int32(amount(next))))
		}
	}
	if min(round, inOne, all, above, cut) < 1000 {
		t.Errorf("not all that there is was come to: round %d, in one %d, all %d, above %d, cut %d", round, inOne, all, above, cut)
	}
}

// TestEverywhereCount counts strewn entries, at once and piece by piece.
func TestEverywhereCount(t *testing.T) {
	for seed := range uint64(300) {
		next := roll(seed)
		var l []api.Entry
		for range next(200) {
			e := at(strewn(next))[0]
			e.Gone = next(3) == 0
			e.Record.Id, e.Record.Version = uint64(next(20)), uint64(next(5))
			l = append(l, e)
		}
		k := next(len(l) + 1)
		all, one, two := count(t, "strewn", l), count(t, "strewn", l[:k]), count(t, "strewn", l[k:])
		if got := sum(t, "two pieces", []api.Density{one, two}); got != all {
			t.Errorf("the seed %d: two pieces have %v and %v; all of it %v", seed, one, two, all)
		}
		here := slices.DeleteFunc(slices.Clone(l), func(e api.Entry) bool { return e.Gone })
		if got := density.All(all); got != uint64(len(here)) {
			t.Errorf("the seed %d: All: %d; want %d", seed, got, len(here))
		}
		var added api.Density
		for _, e := range here {
			added = add(t, "entries", added, e.Value, 1)
		}
		if added != all {
			t.Errorf("the seed %d: added one by one: %v; want %v", seed, added, all)
		}
	}
}

// TestWhatFollows: the whole circle has all, from wherever on; and what is in a span, and what is not, are all, but for what
// is cut off at its ends.
func TestWhatFollows(t *testing.T) {
	for seed := range uint64(500) {
		next := roll(seed)
		d := whatever(next)
		for _, v := range append(edges(), strewn(next)) {
			if got := density.Within(d, api.Span{From: v, To: v}); got != density.All(d) || got != plainAll(d) {
				t.Errorf("Within(%v, all from %#x on): %d; All: %d; want %d", d, v, got, density.All(d), plainAll(d))
			}
			o := strewn(next)
			if o == v {
				continue
			}
			one, other := density.Within(d, api.Span{From: v, To: o}), density.Within(d, api.Span{From: o, To: v})
			if got := one + other; got > density.All(d) || got+2 < density.All(d) {
				t.Errorf("Within(%v, {%#x %#x}): %d; the others: %d; All: %d", d, v, o, one, other, density.All(d))
			}
		}
	}
}

// TestR1: whatever is handed in, it answers.
func TestR1(t *testing.T) {
	numbers := []int{math.MinInt, math.MinInt + 1, -whole, -half, -1, 0, 1, cap31, half, top, whole, math.MaxInt - 1, math.MaxInt}
	for _, d := range []api.Density{{}, each(1), each(cap31), each(half), each(top - 1), each(top), {0: top, 15: top}} {
		for _, v := range edges() {
			for _, n := range numbers {
				if got := add(t, "wrong inputs", d, v, n)[inBucket(v)]; got > cap31 {
					t.Errorf("Add(%v, %#x, %d): the bucket has %d", d, v, n, got)
				}
			}
			within(t, "wrong inputs", d, api.Span{From: v, To: v - 1})
			within(t, "wrong inputs", d, api.Span{From: v, To: v})
		}
		for n := range 5 {
			if got := sum(t, "wrong inputs", slices.Repeat([]api.Density{d}, n)); slices.Max(got[:]) > cap31 {
				t.Errorf("Sum(%v, %d times): %v", d, n, got)
			}
		}
	}
	odd := []api.Entry{{}, {Gone: true}, {Value: top}, {Value: top, Gone: true}, {Record: api.Record{Id: math.MaxUint64, Version: math.MaxUint64}}, {Value: half, Record: api.Record{Values: make([]uint32, 100)}}}
	count(t, "wrong inputs", odd)
	count(t, "wrong inputs", slices.Repeat(odd, 1000))
}

// TestR2: what was asked in between changes nothing.
func TestR2(t *testing.T) {
	for seed := range uint64(100) {
		next := roll(seed)
		d, o, s, v, n := whatever(next), whatever(next), api.Span{From: strewn(next), To: strewn(next)}, strewn(next), next(100)
		added, had, all, both := density.Add(d, v, n), density.Within(d, s), density.All(d), density.Sum([]api.Density{d, o})
		density.Add(o, v, n+1)
		density.Within(o, api.Span{From: s.To, To: s.From})
		density.Sum([]api.Density{o, o, d})
		density.Count(at(v, v+1, v+half))
		if density.Add(d, v, n) != added || density.Within(d, s) != had || density.All(d) != all || density.Sum([]api.Density{d, o}) != both {
			t.Errorf("the seed %d: asked again, of %v, it tells something else", seed, d)
		}
		if got := density.Sum([]api.Density{o, d}); got != both {
			t.Errorf("Sum of %v and %v: %v; the other way %v", d, o, both, got)
		}
	}
}

// TestR2Together: one density, and one list, may be asked by many at the same time.
func TestR2Together(t *testing.T) {
	next := roll(7)
	l, e := []api.Density{whatever(next), whatever(next), whatever(next)}, at(edges()...)
	both, counted := sum(t, "ahead of the others", l), count(t, "ahead of the others", e)
	var jobs sync.WaitGroup
	for range 8 {
		jobs.Go(func() {
			if density.Sum(l) != both || density.Count(e) != counted {
				t.Errorf("at the same time, it tells something else")
			}
			for _, v := range edges() {
				within(t, "at the same time", l[0], api.Span{From: v, To: half})
				add(t, "at the same time", l[1], v, 5)
			}
		})
	}
	jobs.Wait()
}

// TestR3: what is told is new memory, and what is handed in is neither changed nor kept; nil is an empty list.
func TestR3(t *testing.T) {
	d := api.Density{5, 6, 7, 15: 8}
	first := density.Add(d, 0, 1)
	second := density.Add(d, 0, 1)
	for b := range first {
		first[b] ^= 0xeeeeeeee
	}
	if want := (api.Density{6, 6, 7, 15: 8}); second != want || density.Add(d, 0, 1) != want || d != (api.Density{5, 6, 7, 15: 8}) {
		t.Errorf("spoilt: %v, %v, of %v", second, density.Add(d, 0, 1), d)
	}
	l := []api.Density{d, {1, 2, 3}}
	one := density.Sum(l[:1])
	both := density.Sum(l)
	l[0], l[1] = each(9), each(top)
	if one != d || both != (api.Density{6, 8, 10, 15: 8}) {
		t.Errorf("told ahead of changes to the list: %v, %v", one, both)
	}
	if got := density.Sum(l); got != each(cap31) {
		t.Errorf("Sum of a list that was changed: %v", got)
	}
	e := at(5, half, top)
	counted := density.Count(e)
	e[0].Gone, e[1].Value = true, 0
	if want := (api.Density{1, 8: 1, 15: 1}); counted != want {
		t.Errorf("told ahead of changes to the entries: %v; want %v", counted, want)
	}
	if want := (api.Density{1, 15: 1}); density.Count(e) != want {
		t.Errorf("Count of entries that were changed: %v; want %v", density.Count(e), want)
	}
	if density.Sum(nil) != density.Sum([]api.Density{}) || density.Count(nil) != density.Count([]api.Entry{}) {
		t.Error("nil is not as an empty list is")
	}
}
