package estimate_test

import (
	"math"
	"slices"
	"sync"
	"testing"

	"petasos/api"
	"petasos/box"
	"petasos/density"
	"petasos/estimate"
)

// TestExample is the chapter's.
func TestExample(t *testing.T) {
	for _, d := range []api.Density{{}, {1}, {5, 0, 7, 15: 3}, each(cap31)} {
		if got := estimate.Part(d, api.Range{Kind: api.Any}); got != 65536 {
			t.Errorf("Part(%v) of Any: %d; want 65536", d, got)
		}
	}
}

// TestP15_1Part: how many parts of 65,536 there are in the range, without rest.
func TestP15_1Part(t *testing.T) {
	rise := api.Density{1, 2, 4, 8, 16, 32, 64, 128, 256, 512, 1024, 2048, 4096, 8192, 16384, 32768}
	for _, r := range []struct {
		what string
		d    api.Density
		r    api.Range
		want uint32
	}{
		{"any", rise, every(), 65536},
		{"any, of one bucket", only(5, 1), every(), 65536},
		{"any, of one bucket that has much", only(15, top), every(), 65536},
		{"any, with numbers that do not count", rise, api.Range{Kind: api.Any, Lo: 5, Hi: 9}, 65536},
		{"none", rise, none(), 0},
		{"none, with numbers that do not count", rise, api.Range{Kind: api.Nothing, Lo: 9, Hi: 8}, 0},
		{"half of two", api.Density{1, 1}, bucket(0, 1), 32768},
		{"the other half of two", api.Density{1, 1}, bucket(1, 1), 32768},
		{"both of two", api.Density{1, 1}, bucket(0, 2), 65536},
		{"a third", api.Density{1, 1, 1}, bucket(2, 1), 21845},
		{"two thirds", api.Density{1, 1, 1}, bucket(1, 2), 43690},
		{"three thirds", api.Density{1, 1, 1}, bucket(0, 3), 65536},
		{"a third, of more", api.Density{1000, 500}, bucket(1, 1), 21845},
		{"a quarter", api.Density{3: 1, 7: 3}, bucket(3, 1), 16384},
		{"three quarters", api.Density{3: 1, 7: 3}, bucket(4, 12), 49152},
		{"a fifth", api.Density{4, 1}, bucket(1, 15), 13107},
		{"a seventh", api.Density{6, 9: 1}, bucket(9, 1), 9362},
		{"six sevenths", api.Density{6, 9: 1}, bucket(0, 9), 56173},
		{"one of sixteen", each(77), bucket(15, 1), 4096},
		{"one of just 65,536", api.Density{65535, 1}, bucket(1, 1), 1},
		{"one of 65,537", api.Density{65536, 1}, bucket(1, 1), 0},
		{"one of half as many", api.Density{32767, 1}, bucket(1, 1), 2},
		{"one of just more than half as many", api.Density{32768, 1}, bucket(1, 1), 1},
		{"two of 65,537", api.Density{65535, 2}, bucket(1, 1), 1},
		{"all but one of 65,536", api.Density{65535, 1}, bucket(0, 1), 65535},
		{"all but one of 65,537", api.Density{65536, 1}, bucket(0, 1), 65535},
		{"all but one of 65,535", api.Density{65534, 1}, bucket(0, 1), 65534},
		{"all but one of many", api.Density{cap31, 1}, bucket(0, 1), 65535},
		{"one of many", api.Density{cap31, 1}, bucket(1, 1), 0},
		{"the least that makes a part of many", api.Density{half - 32768, 32768}, bucket(1, 1), 1},
		{"just less than makes a part of many", api.Density{half - 32767, 32767}, bucket(1, 1), 0},
		{"half of a bucket, alone", only(0, 8), long(0, wide/2), 32768},
		{"half of a bucket, cut off", only(0, 7), long(0, wide/2), 28086},
		{"half of a bucket of one", only(0, 1), long(0, wide/2), 0},
		{"but for a value, a bucket of one", only(0, 1), long(0, wide-1), 0},
		{"a bit of a bucket that has much", only(9, cap31), long(9*wide, wide/65536), 0},
		{"a bit more of a bucket that has much", only(9, cap31), long(9*wide, wide/65536+1), 1},
		{"a part of a bucket that has as much as values", only(9, wide), long(9*wide, wide/65536), 1},
		{"just less than that", only(9, wide), long(9*wide, wide/65536-1), 0},
		{"halves of two buckets", api.Density{8, 8}, between(wide/2, wide+wide/2-1), 32768},
		{"some buckets", rise, bucket(4, 6), 1008},
		{"half of the circle", rise, bucket(0, 8), 255},
		{"the other half of the circle", rise, bucket(8, 8), 65280},
		{"round the end", rise, bucket(13, 5), 57347},
		{"round the end, from the last value to the first", each(wide), between(top, 0), 0},
		{"round the end, from the last bucket to the first", api.Density{3, 5, 15: 2}, bucket(15, 2), 32768},
		{"round the end, half of the last bucket and half of the first", api.Density{4, 4, 15: 8}, between(15*wide+wide/2, wide/2-1), 24576},
		{"round the end, all but a bucket", each(9), bucket(4, 15), 61440},
		{"round the end, within one bucket", each(8), between(4*wide+wide/2, 4*wide+wide/4-1), 64512},
		{"all, from the first value to the last", rise, between(0, top), 65536},
		{"all, round the end", rise, between(1, 0), 65536},
		{"all, from the last value on", rise, between(top, top-1), 65536},
		{"all, from a bucket's middle on", rise, between(7*wide+5, 7*wide+4), 65536},
		{"all, from half of the circle on", rise, between(half, half-1), 65536},
		{"all but one value", each(wide), between(77, 75), 65535},
		{"all but one value, of few", api.Density{8, 8}, between(77, 75), 61440},
		{"all but one value, of which none is there", api.Density{1: 8, 2: 8}, between(77, 75), 65536},
		{"one value", each(wide), between(5, 5), 0},
		{"one value, of full ones", each(cap31), between(5, 5), 0},
	} {
		if got := estimate.Part(r.d, r.r); got != r.want {
			t.Errorf("%s: Part(%v, %v): %d; want %d", r.what, r.d, r.r, got, r.want)
		}
		part(t, r.what, r.d, r.r)
	}
}

// TestP15_1PartGreatest: buckets at their greatest, and above what Add makes of them, do not go round.
func TestP15_1PartGreatest(t *testing.T) {
	for _, has := range []uint32{cap31 - 1, cap31, half, half + 1, top - 1, top} {
		for first := range api.MaxBuckets {
			for n := 1; n <= api.MaxBuckets; n++ {
				if got := part(t, "greatest", each(has), bucket(first, n)); got != uint32(4096*n) {
					t.Errorf("Part of %d buckets from %d on, each has %d: %d; want %d", n, first, has, got, 4096*n)
				}
			}
			if got := part(t, "greatest", only(first, has), bucket(first, 1)); got != full {
				t.Errorf("Part of the bucket %d, which alone has %d: %d; want %d", first, has, got, full)
			}
			if got := part(t, "greatest", only(first, has), bucket(first+1, 15)); got != 0 {
				t.Errorf("Part of all but the bucket %d, which alone has %d: %d; want 0", first, has, got)
			}
			part(t, "greatest, of each but one", each(has), long(uint32(first)*wide+1, whole-1))
			part(t, "greatest, a half", each(has), long(uint32(first)*wide+wide/2, half))
		}
	}
}

// TestP15_1PartNone: a range that has no value has no part, of whatever density.
func TestP15_1PartNone(t *testing.T) {
	for _, kind := range []int{api.Nothing, 0, 4, 5, -1, -2, 255, 256 + api.Any, 256 + api.Between, whole + api.Any, whole + api.Between, math.MaxInt, math.MinInt} {
		for _, d := range []api.Density{{}, {1}, {15: 1}, each(1), each(cap31), each(top)} {
			for _, r := range []api.Range{{}, between(5, 9), between(9, 5), between(9, 8), between(0, top), between(top, top), between(half, 0)} {
				r.Kind = kind
				if got := estimate.Part(d, r); got != 0 {
					t.Errorf("Part(%v, %v): %d; want 0", d, r, got)
				}
				part(t, "none", d, r)
			}
		}
	}
}

// TestP15_1PartAll: a range that has all has all parts, of whatever density, wherever it begins.
func TestP15_1PartAll(t *testing.T) {
	densities := []api.Density{{}, each(1), each(77), each(cap31), each(top), {3: 5, 9: 1}}
	for b := range api.MaxBuckets {
		densities = append(densities, only(b, 1), only(b, cap31), only(b, top))
	}
	for _, d := range densities {
		for _, v := range edges() {
			for _, r := range []api.Range{between(v, v-1), {Kind: api.Any, Lo: v, Hi: v + 1}, every()} {
				if got := estimate.Part(d, r); got != full {
					t.Errorf("Part(%v, %v): %d; want %d", d, r, got, full)
				}
			}
		}
	}
}

// TestP15_1PartOfNothing: where there is nothing at all, the number of the values counts.
func TestP15_1PartOfNothing(t *testing.T) {
	for _, r := range []struct {
		what   string
		values uint64
		want   uint32
	}{
		{"one value", 1, 0},
		{"two values", 2, 0},
		{"half a part", grains / 2, 0},
		{"just less than a part", grains - 1, 0},
		{"a part", grains, 1},
		{"just more than a part", grains + 1, 1},
		{"just less than two parts", 2*grains - 1, 1},
		{"two parts", 2 * grains, 2},
		{"a million", 1_000_000, 15},
		{"just less than a bucket", wide - 1, 4095},
		{"a bucket", wide, 4096},
		{"just less than half of the circle", half - 1, 32767},
		{"half of the circle", half, 32768},
		{"just more than half of the circle", half + 1, 32768},
		{"all but just more than a part", whole - grains - 1, 65534},
		{"all but a part", whole - grains, 65535},
		{"all but just less than a part", whole - grains + 1, 65535},
		{"all but two values", whole - 2, 65535},
		{"all but one value", whole - 1, 65535},
		{"all", whole, 65536},
	} {
		for _, lo := range append(edges(), 12345, 0xfedc_ba98) {
			if got := estimate.Part(api.Density{}, long(lo, r.values)); got != r.want {
				t.Errorf("%s: Part(%v) of nothing: %d; want %d", r.what, long(lo, r.values), got, r.want)
			}
			part(t, r.what, api.Density{}, long(lo, r.values))
		}
	}
	for want := range uint32(full) {
		values := uint64(want) * grains
		if got := estimate.Part(api.Density{}, long(want*7, values+1)); got != want {
			t.Fatalf("Part of %d values, of nothing: %d; want %d", values+1, got, want)
		}
		if got := estimate.Part(api.Density{}, long(want*7, values+grains-1)); got != want {
			t.Fatalf("Part of %d values, of nothing: %d; want %d", values+grains-1, got, want)
		}
		if got := estimate.Part(api.Density{}, long(want*7, values+grains)); got != want+1 {
			t.Fatalf("Part of %d values, of nothing: %d; want %d", values+grains, got, want+1)
		}
	}
}

// TestP15_1PartNotThere: where there is something elsewhere the number of the values does not count.
func TestP15_1PartNotThere(t *testing.T) {
	for b := range api.MaxBuckets {
		for _, has := range []uint32{1, 2, 1000, cap31, top} {
			for n := 1; n < api.MaxBuckets; n++ {
				if got := part(t, "not there", only(b, has), bucket(b+1, n)); got != 0 {
					t.Errorf("Part of %d buckets behind %d, which alone has %d: %d; want 0", n, b, has, got)
				}
			}
		}
		if got := part(t, "not there, as it is cut off", only(b, 1), long(uint32(b)*wide+1, whole-1)); got != 0 {
			t.Errorf("Part of all but one value of the bucket %d, which alone has one: %d; want 0", b, got)
		}
	}
}

// TestP15_1PartRest: of so many, so many more lead to just so many parts more.
func TestP15_1PartRest(t *testing.T) {
	for _, all := range []uint64{1, 2, 3, 5, 6, 7, 9, 10, 100, 1000, 4095, 32767, 32768, 32769, 65535, 65536, 65537, 1_000_000, cap31 - 1, cap31} {
		for _, want := range []uint64{0, 1, 2, 3, 100, 255, 256, 32767, 32768, 32769, 65534, 65535, 65536} {
			// So many make want parts of all, or a bit more; one less makes fewer.
			in := (want*all + full - 1) / full
			if in*full < (want+1)*all {
				rest(t, in, all, want)
			}
			if in > 0 && (in-1)*full >= (want-1)*all {
				rest(t, in-1, all, want-1)
			}
		}
	}
}

// rest asks for the part of a bucket that has so much of all.
func rest(t *testing.T, in, all, want uint64) {
	t.Helper()
	for b := range api.MaxBuckets {
		d := only(b, uint32(in))
		d[(b+5)%api.MaxBuckets] = uint32(all - in)
		if got := part(t, "rest", d, bucket(b, 1)); uint64(got) != want {
			t.Errorf("Part of %d, of %d: %d; want %d", in, all, got, want)
		}
	}
}

// TestP15_1Best: the place of the least part, of several the first.
func TestP15_1Best(t *testing.T) {
	pair, third, few := api.Density{1, 1}, api.Density{1, 1, 1}, api.Density{1, 99}
	first := bucket(0, 1)
	for _, r := range []struct {
		what string
		l    []api.Density
		b    []api.Range
		want int
	}{
		{"one", []api.Density{pair}, []api.Range{first}, 0},
		{"one, any", []api.Density{pair}, []api.Range{every()}, 0},
		{"one, none", []api.Density{pair}, []api.Range{none()}, 0},
		{"one that has nothing", []api.Density{{}}, []api.Range{first}, 0},
		{"two, the first", []api.Density{third, pair}, []api.Range{first, first}, 0},
		{"two, the second", []api.Density{pair, third}, []api.Range{first, first}, 1},
		{"two alike", []api.Density{pair, pair}, []api.Range{first, first}, 0},
		{"two alike, of other densities", []api.Density{pair, each(5)}, []api.Range{first, bucket(4, 8)}, 0},
		{"two, by their ranges, the first", []api.Density{pair, pair}, []api.Range{first, every()}, 0},
		{"two, by their ranges, the second", []api.Density{pair, pair}, []api.Range{every(), first}, 1},
		{"two, each its own range", []api.Density{{9, 1}, {1, 9}}, []api.Range{bucket(0, 1), bucket(1, 1)}, 0},
		{"two, each its own range, turned", []api.Density{{9, 1}, {2, 9}}, []api.Range{bucket(1, 1), bucket(0, 1)}, 0},
		{"two, each its own range, less", []api.Density{{9, 2}, {1, 9}}, []api.Range{bucket(1, 1), bucket(0, 1)}, 1},
		{"all any", make([]api.Density, 8), slices.Repeat([]api.Range{every()}, 8), 0},
		{"three, at the beginning", []api.Density{few, pair, third}, []api.Range{first, first, first}, 0},
		{"three, in the middle", []api.Density{pair, few, third}, []api.Range{first, first, first}, 1},
		{"three, at the end", []api.Density{pair, third, few}, []api.Range{first, first, first}, 2},
		{"three, the least twice, at the beginning", []api.Density{few, few, pair}, []api.Range{first, first, first}, 0},
		{"three, the least twice, at the end", []api.Density{pair, few, few}, []api.Range{first, first, first}, 1},
		{"three, the least twice, apart", []api.Density{few, pair, few}, []api.Range{first, first, first}, 0},
		{"falling", []api.Density{{4, 1}, {3, 1}, {2, 1}, {1, 1}}, []api.Range{first, first, first, first}, 3},
		{"rising", []api.Density{{1, 1}, {2, 1}, {3, 1}, {4, 1}}, []api.Range{first, first, first, first}, 0},
		{"falling and rising", []api.Density{{4, 1}, {1, 1}, {3, 1}, {5, 1}}, []api.Range{first, first, first, first}, 1},
		{"down twice", []api.Density{{4, 1}, {2, 1}, {3, 1}, {1, 1}, {2, 1}}, []api.Range{first, first, first, first, first}, 3},
		{"less by one part", []api.Density{{32769, 32767}, {32768, 32768}}, []api.Range{first, first}, 1},
		{"less by less than a part", []api.Density{{65537, 65535}, {65536, 65536}}, []api.Range{first, bucket(0, 1)}, 0},
		{"less in all, but not in parts", []api.Density{{50, 50}, {2, 1}}, []api.Range{first, first}, 0},
		{"none, at the end", []api.Density{few, pair, {}}, []api.Range{first, first, none()}, 2},
		{"none, in the middle", []api.Density{few, each(top), pair}, []api.Range{first, none(), first}, 1},
		{"none, twice", []api.Density{few, pair, third}, []api.Range{first, none(), none()}, 1},
		{"none, behind one that has no part", []api.Density{{1: 5}, pair}, []api.Range{first, none()}, 0},
		{"none, ahead of one that has no part", []api.Density{pair, {1: 5}}, []api.Range{none(), first}, 0},
		{"none, and any", []api.Density{pair, pair}, []api.Range{every(), none()}, 1},
		{"all none", []api.Density{pair, few}, []api.Range{none(), none()}, 0},
		{"nothing at all has no less than its values", []api.Density{{}, {1, 99}}, []api.Range{first, first}, 1},
		{"nothing at all, few values", []api.Density{few, {}}, []api.Range{first, between(5, 9)}, 1},
		{"nothing at all, by the values", []api.Density{{}, {}, {}}, []api.Range{bucket(0, 3), bucket(5, 2), bucket(9, 4)}, 1},
		{"nothing at all, alike but for less than a part", []api.Density{{}, {}}, []api.Range{long(7, grains+9), long(7, grains)}, 0},
		{"nothing at all, round the end", []api.Density{{}, {}}, []api.Range{between(9, 5), between(half, 5)}, 1},
		{"something elsewhere", []api.Density{{}, only(9, 1)}, []api.Range{bucket(0, 1), bucket(0, 8)}, 1},
		{"the greatest there is", []api.Density{each(top), each(top)}, []api.Range{bucket(0, 15), bucket(0, 14)}, 1},
		{"eight, at the beginning", []api.Density{few, pair, pair, pair, pair, pair, pair, pair}, slices.Repeat([]api.Range{first}, 8), 0},
		{"eight, at the end", []api.Density{pair, pair, pair, pair, pair, pair, pair, few}, slices.Repeat([]api.Range{first}, 8), 7},
		{"eight, in the middle", []api.Density{pair, pair, pair, pair, few, pair, pair, few}, slices.Repeat([]api.Range{first}, 8), 4},
	} {
		if got, err := estimate.Best(r.l, r.b); got != r.want || err != api.OK {
			t.Errorf("%s: Best(%v, %v): %d, %d; want %d, OK", r.what, r.l, r.b, got, err, r.want)
		}
		best(t, r.what, r.l, r.b)
	}
}

// TestP15_1BestKinds: boxes of ranges of every kind, in each place.
func TestP15_1BestKinds(t *testing.T) {
	ranges := []api.Range{every(), none(), bucket(0, 1), bucket(1, 5), between(9, 8), between(top, 0), {Kind: api.Any, Lo: 3, Hi: 4}, {Kind: api.Nothing, Lo: 3, Hi: 4}}
	densities := []api.Density{{}, each(1), {1, 2, 3}, {15: top}}
	for hubs := range api.MaxAttrs {
		for seed := range uint64(40) {
			next := roll(seed)
			l, b := make([]api.Density, hubs+1), make([]api.Range, hubs+1)
			for i := range l {
				l[i], b[i] = densities[next(len(densities))], ranges[next(len(ranges))]
			}
			if _, err := best(t, "kinds", l, b); err != api.OK {
				t.Errorf("Best(%v, %v): %d; want OK", l, b, err)
			}
		}
	}
}

// TestP15_1BestRefuses: no box of as many ranges as there are hubs.
func TestP15_1BestRefuses(t *testing.T) {
	kind := func(kind int) api.Range { return api.Range{Kind: kind, Lo: 5, Hi: 9} }
	for _, r := range []struct {
		what string
		hubs int
		b    []api.Range
	}{
		{"nil, both", 0, nil},
		{"no hubs, and no ranges", 0, []api.Range{}},
		{"no hubs", 0, []api.Range{every()}},
		{"no hubs, and several ranges", 0, []api.Range{every(), none(), bucket(0, 1)}},
		{"no hubs, and a wrong range", 0, []api.Range{kind(0)}},
		{"no ranges", 1, nil},
		{"no ranges, of several hubs", 3, []api.Range{}},
		{"one hub more than ranges", 2, []api.Range{every()}},
		{"one hub more than ranges, of several", 4, []api.Range{every(), none(), bucket(0, 1)}},
		{"one hub less than ranges", 1, []api.Range{every(), every()}},
		{"one hub less than ranges, of several", 3, slices.Repeat([]api.Range{every()}, 4)},
		{"eight hubs and seven ranges", 8, slices.Repeat([]api.Range{every()}, 7)},
		{"eight hubs and nine ranges", 8, slices.Repeat([]api.Range{every()}, 9)},
		{"nine hubs and eight ranges", 9, slices.Repeat([]api.Range{every()}, 8)},
		{"nine of both", 9, slices.Repeat([]api.Range{every()}, 9)},
		{"ten of both", 10, slices.Repeat([]api.Range{none()}, 10)},
		{"very many of both", 300, slices.Repeat([]api.Range{every()}, 300)},
		{"as many as go round to one", 257, slices.Repeat([]api.Range{every()}, 257)},
		{"a range that there is none such, alone", 1, []api.Range{kind(0)}},
		{"a range that there is none such, first", 3, []api.Range{kind(4), every(), none()}},
		{"a range that there is none such, in the middle", 3, []api.Range{every(), kind(-1), none()}},
		{"a range that there is none such, last", 3, []api.Range{every(), none(), kind(255)}},
		{"a range that there is none such, behind the least", 2, []api.Range{none(), kind(math.MaxInt)}},
		{"a range that there is none such, last of eight", 8, append(slices.Repeat([]api.Range{every()}, 7), kind(math.MinInt))},
		{"ranges that there are none such, all", 8, make([]api.Range, 8)},
		{"a range whose kind goes round to one", 1, []api.Range{kind(256 + api.Between)}},
		{"a range whose kind goes round to one, far", 2, []api.Range{every(), kind(whole + api.Any)}},
	} {
		l := slices.Repeat([]api.Density{{1, 2, 3}}, r.hubs)
		if got, err := estimate.Best(l, r.b); got != 0 || err != api.ErrBox {
			t.Errorf("%s: Best of %d hubs, %v: %d, %d; want 0, ErrBox", r.what, r.hubs, r.b, got, err)
		}
		best(t, r.what, l, r.b)
		best(t, r.what+", hubs that have nothing", make([]api.Density, r.hubs), r.b)
	}
}

// TestP15_1BestRight: just where box.Right refuses, by whatever numbers of hubs and ranges, and by whatever kinds.
func TestP15_1BestRight(t *testing.T) {
	for hubs := range 12 {
		for ranges := range 12 {
			for _, wrong := range []int{-1, 0, ranges / 2, ranges - 1} {
				l, b := slices.Repeat([]api.Density{each(3)}, hubs), slices.Repeat([]api.Range{bucket(3, 4)}, ranges)
				if wrong >= 0 && wrong < ranges {
					b[wrong].Kind = 4
				}
				_, err := best(t, "right", l, b)
				if right := box.Right(hubs, b); right != (err == api.OK) || !right && err != api.ErrBox {
					t.Errorf("Best of %d hubs, and %d ranges, of which %d is wrong: %d; box.Right: %t", hubs, ranges, wrong, err, right)
				}
			}
		}
	}
}

// TestEverywhere asks of strewn densities and ranges, and holds what is told against a plain reference.
func TestEverywhere(t *testing.T) {
	var nothing, round, all, cut, behind, twice int
	for seed := range uint64(20_000) {
		next := roll(seed)
		hubs := next(api.MaxAttrs) + 1
		l, b := make([]api.Density, hubs), make([]api.Range, hubs)
		parts := map[uint32]int{}
		for i := range l {
			l[i], b[i] = whatever(next), strewnRange(next)
			got := part(t, "strewn", l[i], b[i])
			parts[got]++
			switch {
			case got == full:
				all++
			case density.All(l[i]) == 0:
				nothing++
			case got > 0:
				cut++
			}
			if b[i].Kind == api.Between && b[i].Hi < b[i].Lo {
				round++
			}
		}
		got, err := best(t, "strewn", l, b)
		if got > 0 {
			behind++
		}
		if err == api.OK && parts[estimate.Part(l[got], b[got])] > 1 {
			twice++
		}
	}
	if min(nothing, round, all, cut, behind, twice) < 1000 {
		t.Errorf("not all that there is was come to: nothing %d, round %d, all %d, cut %d, behind %d, twice %d", nothing, round, all, cut, behind, twice)
	}
}

// TestEvenly: what lies evenly has as much in a range as nothing at all.
func TestEvenly(t *testing.T) {
	for _, lo := range edges() {
		for _, hi := range edges() {
			r := between(lo, hi)
			if got, want := estimate.Part(each(wide), r), estimate.Part(api.Density{}, r); got != want {
				t.Fatalf("Part(%v), of what lies evenly: %d; of nothing: %d", r, got, want)
			}
			part(t, "evenly", each(wide), r)
		}
	}
}

// TestWhatFollows: no part is more than all; and a range and what is not in it have no more than all together.
func TestWhatFollows(t *testing.T) {
	for seed := range uint64(500) {
		next := roll(seed)
		d := whatever(next)
		for _, v := range append(edges(), strewn(next)) {
			o := strewn(next)
			one, other := estimate.Part(d, between(v, o-1)), estimate.Part(d, between(o, v-1))
			if v == o {
				other = 0
			}
			if one > full || other > full || one+other > full {
				t.Errorf("Part(%v) from %#x up to %#x: %d; of the others: %d", d, v, o-1, one, other)
			}
			if got := estimate.Part(d, between(v, v-1)); got != full {
				t.Errorf("Part(%v) of all, from %#x on: %d", d, v, got)
			}
		}
	}
}

// TestR1: whatever is handed in, it answers.
func TestR1(t *testing.T) {
	kinds := []int{math.MinInt, -1, 0, api.Any, api.Between, api.Nothing, 4, 99, math.MaxInt}
	for _, d := range []api.Density{{}, each(1), each(cap31), each(half), each(top), {0: top, 15: top}} {
		for _, kind := range kinds {
			for i, lo := range edges() {
				hi := edges()[len(edges())-1-i]
				part(t, "wrong inputs", d, api.Range{Kind: kind, Lo: lo, Hi: hi})
				part(t, "wrong inputs", d, api.Range{Kind: kind, Lo: lo, Hi: lo - 1})
			}
			for hubs := range 10 {
				for ranges := range 10 {
					best(t, "wrong inputs", slices.Repeat([]api.Density{d}, hubs), slices.Repeat([]api.Range{{Kind: kind, Hi: 7}}, ranges))
				}
			}
		}
	}
	best(t, "wrong inputs", nil, nil)
	best(t, "wrong inputs", nil, []api.Range{every()})
	best(t, "wrong inputs", []api.Density{{}}, nil)
}

// TestR2: the same answers again, whatever was asked for between, and by several at once.
func TestR2(t *testing.T) {
	next := roll(7)
	l, b := make([]api.Density, api.MaxAttrs), make([]api.Range, api.MaxAttrs)
	for i := range l {
		l[i], b[i] = whatever(next), between(strewn(next), strewn(next))
	}
	place, err := estimate.Best(l, b)
	parts := make([]uint32, len(l))
	for i := range l {
		parts[i] = estimate.Part(l[i], b[i])
	}
	var all sync.WaitGroup
	for range 8 {
		all.Go(func() {
			for range 200 {
				for i := range l {
					if got := estimate.Part(l[i], b[i]); got != parts[i] {
						t.Errorf("Part(%v, %v), again: %d; want %d", l[i], b[i], got, parts[i])
					}
				}
				if got, e := estimate.Best(l, b); got != place || e != err {
					t.Errorf("Best, again: %d, %d; want %d, %d", got, e, place, err)
				}
				estimate.Best(l, b[1:])
				estimate.Best(l[:3], b[:3])
			}
		})
	}
	all.Wait()
}

// TestR3In: the list and the box are not kept: who writes into them changes nothing of what is asked for thereafter; and a
// density that was handed in, and those of the list, stay (each call of part and best looks).
func TestR3In(t *testing.T) {
	l := []api.Density{{1, 1}, {1, 1, 1}, {1, 99}}
	b := []api.Range{bucket(0, 1), bucket(0, 1), bucket(0, 1)}
	for _, want := range []int{2, 1, 0} {
		if got, err := best(t, "written into", l, b); got != want || err != api.OK {
			t.Errorf("Best(%v, %v): %d, %d; want %d, OK", l, b, got, err, want)
		}
		l[want] = each(1)
		b[want] = every()
	}
	if got, _ := best(t, "written into", l, b); got != 0 {
		t.Errorf("Best(%v, %v): %d; want 0", l, b, got)
	}
	// A list with room behind its end, in which what lies there would be better, or would be refused.
	hubs, ranges := []api.Density{{1, 1}, {1, 1, 1}, {}}, []api.Range{bucket(0, 1), bucket(0, 1), none(), {}}
	if got, err := estimate.Best(hubs[:2], ranges[:2]); got != 1 || err != api.OK {
		t.Errorf("Best with room behind the ends: %d, %d; want 1, OK", got, err)
	}
	if got, err := estimate.Best(hubs[:2], ranges[:3]); got != 0 || err != api.ErrBox {
		t.Errorf("Best of more ranges than hubs, with room behind the end: %d, %d; want 0, ErrBox", got, err)
	}
	if !slices.Equal(hubs, []api.Density{{1, 1}, {1, 1, 1}, {}}) || !slices.Equal(ranges, []api.Range{bucket(0, 1), bucket(0, 1), none(), {}}) {
		t.Errorf("Best changed what was handed in: %v, %v", hubs, ranges)
	}
}
