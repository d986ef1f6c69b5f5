package greedy_test

import (
	"math"
	"slices"
	"sync"
	"testing"

	"petasos/api"
	"petasos/circle"
	"petasos/greedy"
	"petasos/ring"
)

// TestExample is the chapter's.
func TestExample(t *testing.T) {
	s := of(t, 10, 20, 30)
	if got, is := way(t, s.ring, nil, 10, 25); !slices.Equal(got, []uint32{10, 20, 30}) || !is {
		t.Errorf("Way(10, 25): %v, %v; want 10 20 30", got, is)
	}
}

// TestP13_1Next: where it goes on, in whatever order the links stand.
func TestP13_1Next(t *testing.T) {
	six, ends := []uint32{10, 20, 30, 40, 50, 60}, []uint32{0, 1, 7, half, top - 1, top}
	for _, r := range []struct {
		what          string
		points, links []uint32
		at, v, want   uint32
		is            bool
	}{
		{"no points", nil, nil, 0, 0, 0, false},
		{"no points, links", nil, []uint32{10, 20}, 10, 15, 0, false},
		{"no point, between two", six, []uint32{20, 30}, 15, 45, 0, false},
		{"no point, just ahead of one", six, []uint32{20, 30}, 19, 45, 0, false},
		{"no point, just behind one", six, []uint32{20, 30}, 21, 45, 0, false},
		{"no point, ahead of the first one", six, []uint32{20, 30}, 0, 45, 0, false},
		{"no point, behind the last one", six, []uint32{20, 30}, 61, 45, 0, false},
		{"no point, the last value", six, []uint32{20, 30}, top, 45, 0, false},
		{"no point, and v there", six, []uint32{20, 30}, 15, 15, 0, false},
		{"no point, and v next to it, a point", six, []uint32{20, 30}, 15, 20, 0, false},
		{"no point, among its own links", six, []uint32{15, 30}, 15, 45, 0, false},
		{"no point, of a ring of one", []uint32{10}, []uint32{10}, 11, 20, 0, false},

		{"v is at itself", six, []uint32{30, 40}, 20, 20, 0, false},
		{"v just ahead of at", six, []uint32{30, 40}, 20, 19, 0, false},
		{"v, the first one that at owns", six, []uint32{30, 40}, 20, 11, 0, false},
		{"v is the first point, at itself", six, []uint32{30, 40}, 10, 10, 0, false},
		{"v ahead of the first point", six, []uint32{30, 40}, 10, 0, 0, false},
		{"v round the end, the first point's", six, []uint32{30, 40}, 10, 61, 0, false},
		{"v across, the first point's", six, []uint32{30, 40}, 10, half, 0, false},
		{"v the last value, the first point's", six, []uint32{30, 40}, 10, top, 0, false},
		{"v is the greatest value, at itself", ends, []uint32{0, 7}, top, top, 0, false},
		{"v is 0, at itself", ends, []uint32{1, half}, 0, 0, 0, false},
		{"v far ahead of at", ends, []uint32{top}, half, 8, 0, false},

		{"one point, v itself", []uint32{10}, nil, 10, 10, 0, false},
		{"one point, v behind it", []uint32{10}, []uint32{10}, 10, 11, 0, false},
		{"one point, v ahead of it", []uint32{10}, []uint32{5, 10, 15}, 10, 9, 0, false},
		{"one point, v across", []uint32{10}, []uint32{11}, 10, half + 10, 0, false},
		{"one point, 0", []uint32{0}, []uint32{0, top}, 0, top, 0, false},
		{"one point, the greatest", []uint32{top}, []uint32{0, top}, top, 0, 0, false},

		{"Next owns v", six, nil, 20, 25, 30, true},
		{"Next owns v, just behind at", six, nil, 20, 21, 30, true},
		{"Next is v", six, nil, 20, 30, 30, true},
		{"Next owns v, links behind it", six, []uint32{40, 50, 60, 10}, 20, 25, 30, true},
		{"Next is v, links behind it", six, []uint32{40, 50, 60, 10}, 20, 30, 30, true},
		{"Next owns v, links to at, v and Next", six, []uint32{20, 25, 30}, 20, 25, 30, true},
		{"Next owns v, links ahead of v that are no points", six, []uint32{21, 22, 24}, 20, 25, 30, true},
		{"Next owns v, round the end", six, []uint32{20, 30, 40, 50}, 60, 61, 10, true},
		{"Next owns v, the last value", six, []uint32{20, 30, 40, 50}, 60, top, 10, true},
		{"Next owns v, 0", six, []uint32{20, 30, 40, 50}, 60, 0, 10, true},
		{"Next is v, round the end", six, []uint32{20, 30, 40, 50}, 60, 10, 10, true},
		{"two points, the other one owns v", []uint32{10, 20}, []uint32{10, 20}, 10, 15, 20, true},
		{"two points, the other one is v", []uint32{10, 20}, []uint32{10, 20}, 20, 10, 10, true},
		{"side by side", []uint32{0, top}, nil, top, 0, 0, true},
		{"side by side, the other way", []uint32{0, top}, nil, 0, half, top, true},

		{"no links", six, nil, 10, 45, 20, true},
		{"an empty list of links", six, []uint32{}, 10, 45, 20, true},
		{"no links, v a point", six, nil, 10, 60, 20, true},
		{"no links, v just behind Next", six, nil, 10, 21, 20, true},
		{"no links, v just ahead of at's own", six, nil, 20, 10, 30, true},
		{"no links, round the end", six, nil, 60, 25, 10, true},
		{"no links, of the last but one, round the end", six, nil, 50, 5, 60, true},

		{"links that are no points", six, []uint32{21, 29, 31, 35, 39, 41, 44}, 10, 45, 20, true},
		{"links that are no points, far from v", six, []uint32{0, 9, 61, half, top}, 10, 45, 20, true},
		{"a link to at itself", six, []uint32{10}, 10, 45, 20, true},
		{"a link to at itself, 0", ends, []uint32{0}, 0, half, 1, true},
		{"a link to v", six, []uint32{40}, 10, 40, 20, true},
		{"a link to v, just behind Next", six, []uint32{30}, 10, 30, 20, true},
		{"a link to the owner of v", six, []uint32{50}, 10, 45, 20, true},
		{"a link to the owner of v, which is just behind v", six, []uint32{50}, 10, 49, 20, true},
		{"a link just behind v", six, []uint32{50}, 10, 40, 20, true},
		{"links far behind v", six, []uint32{50, 60}, 10, 31, 20, true},
		{"a link just ahead of at, round the end", six, []uint32{10}, 20, 45, 30, true},
		{"links ahead of at, as numbers below v", six, []uint32{10, 20}, 30, 55, 40, true},
		{"a link to v, to v's owner, to at", six, []uint32{50, 45, 10}, 10, 45, 20, true},

		{"a link that is Next", six, []uint32{20}, 10, 45, 20, true},
		{"a link ahead of v", six, []uint32{30}, 10, 45, 30, true},
		{"a link just ahead of v", six, []uint32{40}, 10, 41, 40, true},
		{"a link that is just behind Next", six, []uint32{30}, 10, 60, 30, true},
		{"two links", six, []uint32{30, 40}, 10, 45, 40, true},
		{"the farthest one stands between", six, []uint32{30, 50, 40}, 10, 60, 50, true},
		{"links ahead of v and behind it", six, []uint32{20, 30, 50, 60}, 10, 45, 30, true},
		{"links ahead of v, at and to v", six, []uint32{30, 10, 40}, 10, 40, 30, true},
		{"links ahead of v, and farther ones that are no points", six, []uint32{30, 39, 35}, 10, 40, 30, true},
		{"a link twice", six, []uint32{30, 40, 40}, 10, 45, 40, true},
		{"a nearer link twice", six, []uint32{30, 30, 40}, 10, 45, 40, true},
		{"each twice", six, []uint32{20, 40, 20, 40}, 10, 45, 40, true},
		{"all, v a point", six, six, 10, 60, 50, true},
		{"all, v round the end", six, six, 20, 5, 60, true},

		{"round the end, v ahead of it", six, []uint32{50, 60, 10}, 40, top, 60, true},
		{"round the end, v 0", six, []uint32{50, 60, 10}, 40, 0, 60, true},
		{"round the end, v behind it", six, []uint32{60, 10, 20}, 40, 15, 10, true},
		{"round the end, v far behind it", six, []uint32{60, 10, 20}, 40, 25, 20, true},
		{"round the end, all but round", six, []uint32{60, 10, 20, 30}, 40, 30, 20, true},
		{"round the end, from the last point", six, []uint32{20, 40, 50}, 60, 45, 40, true},
		{"round the end, a link that is the greater number, and nearer", six, []uint32{60, 10}, 50, 15, 10, true},
		{"round the end, links behind v, as greater numbers", six, []uint32{30, 40, 50}, 60, 15, 10, true},
		{"round the end, links behind v, one ahead of it", six, []uint32{20, 30, 40}, 60, 25, 20, true},
		{"to 0", ends, []uint32{0, 1, 7}, top - 1, 1, 0, true},
		{"to the greatest one", ends, []uint32{top, 1, 7}, half, 0, top, true},
		{"across", ends, []uint32{half, top - 1}, 1, top - 1, half, true},
		{"more than half round", ends, []uint32{half, top - 1}, 1, top, top - 1, true},
		{"all but round, from 0", ends, []uint32{half, top - 1, top}, 0, top, top - 1, true},
		{"all but round, from the greatest one", ends, []uint32{half, 7, top - 1}, top, top - 1, half, true},
		{"all but round, from the middle", ends, []uint32{top, 1, 0}, half, 7, 1, true},
	} {
		for _, links := range given(r.links) {
			s := of(t, r.points...)
			if got, is := greedy.Next(s.ring, links, r.at, r.v); got != r.want || is != r.is {
				t.Errorf("%s: of %v: Next(%v, %d, %d): %d, %v; want %d, %v", r.what, r.points, links, r.at, r.v, got, is, r.want, r.is)
			}
			s.next(t, r.what, links, r.at, r.v)
		}
	}
}

// given is links in each order, if there are few of them, and otherwise forwards and backwards.
func given(links []uint32) [][]uint32 {
	if len(links) < 6 {
		return orders(links)
	}
	back := slices.Clone(links)
	slices.Reverse(back)
	return [][]uint32{links, back}
}

// TestP13_1NextNoPoint: false of what is none, whatever is asked.
func TestP13_1NextNoPoint(t *testing.T) {
	dropped := of(t, 9, 20, 300, half)
	dropped.ring.Drop(9)
	dropped.points = dropped.points[1:]
	for _, s := range []scene{
		dropped, of(t), of(t, 8), of(t, 10), of(t, 8, 10), of(t, 0, top), of(t, 9+1<<16, 9+half), of(t, even(api.MaxNodes)...),
		{&ring.Ring{}, nil}, {nil, nil},
	} {
		for _, v := range append(s.asked(), 9) {
			for _, links := range [][]uint32{nil, {9}, s.points, {v, 9, v - 1, v + 1}} {
				if got, is := greedy.Next(s.ring, links, 9, v); got != 0 || is {
					t.Errorf("of %v: Next(%v, 9, %d): %d, %v; want none", s.points, links, v, got, is)
				}
			}
		}
	}
}

// TestP13_1NextOwner: false just of what owns v; and who is told lies behind at, not behind the owner of v.
func TestP13_1NextOwner(t *testing.T) {
	for n := range api.MaxNodes {
		s := of(t, even(n+1)...)
		for _, v := range s.asked() {
			owner := plainOwner(s.points, v)
			for _, at := range s.points {
				got, is := greedy.Next(s.ring, s.points, at, v)
				if is != (at != owner) || !is && got != 0 {
					t.Fatalf("of %v: Next(%d, %d): %d, %v; the owner is %d", s.points, at, v, got, is, owner)
				}
				if is && (circle.Far(at, got) == 0 || circle.Far(at, got) > circle.Far(at, owner)) {
					t.Fatalf("of %v: Next(%d, %d): %d; the owner is %d", s.points, at, v, got, owner)
				}
			}
		}
	}
}

// TestP13_1NextFew asks of rings of one to four points with each choice of links, in each order, from each point, and from
// what is none, for values all round the circle.
func TestP13_1NextFew(t *testing.T) {
	for _, l := range [][]uint32{
		{0}, {top}, {half}, {0, top}, {0, 1}, {5, half}, {top - 1, top}, {0, 1, 2}, {0, half, top}, {top - 2, top, 3}, {10, 20, 30},
		{0, 1, top - 1, top}, {10, 20, 30, 40}, {half - 1, half, half + 1, top}, {3, 1 << 16, half + 7, top - 9},
	} {
		s := of(t, l...)
		for _, links := range parts(l) {
			for _, links := range orders(links) {
				for _, v := range s.asked() {
					for _, at := range append(s.points, v) {
						s.next(t, "few points", links, at, v)
						s.next(t, "few points, and v among the links", append(links, v, v-1, v+1), at, v)
					}
				}
			}
		}
	}
}

// TestP13_1NextSteps goes step by step: v and the one link go from at on all round.
func TestP13_1NextSteps(t *testing.T) {
	for _, at := range []uint32{0, 1, 5, half - 9, half, top - 30, top - 11, top - 1, top} {
		s := of(t, at, at+4, at+9, at+15, at+16, at+22)
		for v := range uint32(30) {
			for link := range uint32(30) {
				want, is := uint32(0), v > 0 && v <= 22
				if is {
					want = 4
				}
				if slices.Contains([]uint32{9, 15, 16}, link) && link < v {
					want = link
				}
				got, goesOn := greedy.Next(s.ring, []uint32{at + link}, at, at+v)
				if !is && (goesOn || got != 0) || is && (!goesOn || got != at+want) {
					t.Errorf("of %v: Next([%d off], %d, %d off): %d, %v; want %d off, %v", s.points, link, at, v, got, goesOn, want, is)
				}
			}
		}
	}
}

// TestP13_1NextMany: of many links the farthest one that is a point counts, wherever it stands among them, and though the
// list is long.
func TestP13_1NextMany(t *testing.T) {
	s := of(t, even(api.MaxNodes)...)
	for seed := range uint64(20) {
		next := roll(seed)
		at, v := s.points[next(len(s.points))], s.points[next(len(s.points))]-uint32(next(3))
		links := append(strewn(next, at, 500), s.points[:next(len(s.points))]...)
		for range 30 {
			k := next(len(links))
			links[0], links[k] = links[k], links[0]
			slices.Reverse(links[next(len(links)):])
			s.next(t, "many links", links, at, v)
		}
	}
	long := slices.Repeat([]uint32{s.points[1], 7, s.points[5], s.points[3], half + 77}, 20000)
	s.next(t, "a long list", long, s.points[0], s.points[9])
	s.next(t, "a long list, at its end", append(long, s.points[6]), s.points[0], s.points[9])
}

// TestP13_2Way: the points that one comes by.
func TestP13_2Way(t *testing.T) {
	six := []uint32{10, 20, 30, 40, 50, 60}
	far := map[uint32][]uint32{10: {30, 50}, 20: {40, 60}, 30: {50, 10}, 40: {60, 20}, 50: {10, 30}, 60: {20, 40}}
	for _, r := range []struct {
		what   string
		points []uint32
		links  map[uint32][]uint32
		at, v  uint32
		want   []uint32
		is     bool
	}{
		{"no points", nil, nil, 0, 0, nil, false},
		{"no points, links", nil, far, 10, 45, nil, false},
		{"no point", six, nil, 15, 45, nil, false},
		{"no point, v there", six, far, 15, 15, nil, false},
		{"no point, just ahead of one", six, far, 9, 45, nil, false},
		{"no point, just behind one", six, far, 61, 45, nil, false},
		{"no point, of which the map tells", six, map[uint32][]uint32{15: {20, 30}}, 15, 45, nil, false},

		{"one point", []uint32{10}, nil, 10, 10, []uint32{10}, true},
		{"one point, v behind it", []uint32{10}, far, 10, 11, []uint32{10}, true},
		{"one point, v ahead of it", []uint32{10}, far, 10, 9, []uint32{10}, true},
		{"the owner of v, itself", six, far, 20, 20, []uint32{20}, true},
		{"the owner of v, the first value", six, far, 20, 11, []uint32{20}, true},
		{"the owner of v, round the end", six, far, 10, top, []uint32{10}, true},
		{"the owner of v, 0", six, far, 10, 0, []uint32{10}, true},

		{"no map, Next", six, nil, 20, 25, []uint32{20, 30}, true},
		{"no map, Next is v", six, nil, 20, 30, []uint32{20, 30}, true},
		{"no map, one more", six, nil, 20, 31, []uint32{20, 30, 40}, true},
		{"no map, all", six, nil, 10, 60, six, true},
		{"no map, all, v the first value of the last one", six, nil, 10, 51, six, true},
		{"no map, round the end", six, nil, 50, 25, []uint32{50, 60, 10, 20, 30}, true},
		{"no map, all, round the end", six, nil, 40, 30, []uint32{40, 50, 60, 10, 20, 30}, true},
		{"no map, to the first point", six, nil, 50, half, []uint32{50, 60, 10}, true},
		{"an empty map", six, map[uint32][]uint32{}, 10, 45, []uint32{10, 20, 30, 40, 50}, true},
		{"a map of no links", six, map[uint32][]uint32{10: nil, 20: {}, 30: nil}, 10, 45, []uint32{10, 20, 30, 40, 50}, true},

		{"links", six, far, 10, 45, []uint32{10, 30, 40, 50}, true},
		{"links, all but to the end", six, far, 10, 55, []uint32{10, 50, 60}, true},
		{"links, v a point", six, far, 10, 50, []uint32{10, 30, 40, 50}, true},
		{"links, v just behind it", six, far, 10, 51, []uint32{10, 50, 60}, true},
		{"links, round the end", six, far, 40, 15, []uint32{40, 60, 10, 20}, true},
		{"links, far round the end", six, far, 40, 30, []uint32{40, 20, 30}, true},
		{"links, in turn", six, far, 50, 35, []uint32{50, 30, 40}, true},
		{"each one's own links, not at's", six, map[uint32][]uint32{10: {30}, 30: {50}, 50: {20}}, 10, 55, []uint32{10, 30, 50, 60}, true},
		{"at's links alone", six, map[uint32][]uint32{10: {30, 50}}, 10, 45, []uint32{10, 30, 40, 50}, true},
		{"links of another one on the way", six, map[uint32][]uint32{20: {40}}, 10, 55, []uint32{10, 20, 40, 50, 60}, true},
		{"links of one that is not on the way", six, map[uint32][]uint32{10: {40}, 20: {50}, 30: {50}}, 10, 55, []uint32{10, 40, 50, 60}, true},
		{"links of the owner", six, map[uint32][]uint32{50: {10, 20, 60}}, 10, 45, []uint32{10, 20, 30, 40, 50}, true},
		{"links back", six, map[uint32][]uint32{20: {10}, 30: {10, 20}, 40: {10, 20, 30, 40}}, 10, 45, []uint32{10, 20, 30, 40, 50}, true},
		{"links to v's owner, and behind it", six, map[uint32][]uint32{10: {50, 60}, 20: {50, 60}, 30: {50}, 40: {60}}, 10, 45, []uint32{10, 20, 30, 40, 50}, true},
		{"keys that are no points", six, map[uint32][]uint32{0: {50}, 15: {40}, 25: {50}, 45: {60}, top: {30}}, 10, 45, []uint32{10, 20, 30, 40, 50}, true},
		{"links that are no points", six, map[uint32][]uint32{10: {25, 35, 44}, 20: {0, top}, 30: {31, 41}}, 10, 45, []uint32{10, 20, 30, 40, 50}, true},
		{"links that are no points, of which the map tells", six, map[uint32][]uint32{10: {25}, 25: {40}}, 10, 45, []uint32{10, 20, 30, 40, 50}, true},
		{"links that are no points, among others", six, map[uint32][]uint32{10: {29, 30, 31}, 30: {44, 40}}, 10, 45, []uint32{10, 30, 40, 50}, true},
		{"a link twice", six, map[uint32][]uint32{10: {40, 40, 30, 40}}, 10, 45, []uint32{10, 40, 50}, true},
	} {
		s := of(t, r.points...)
		if got, is := way(t, s.ring, r.links, r.at, r.v); !slices.Equal(got, r.want) || is != r.is {
			t.Errorf("%s: of %v: Way(%v, %d, %d): %v, %v; want %v, %v", r.what, r.points, r.links, r.at, r.v, got, is, r.want, r.is)
		}
		s.way(t, r.what, r.links, r.at, r.v)
	}
}

// TestP13_2WayNoPoint: false, and nothing, of what is none.
func TestP13_2WayNoPoint(t *testing.T) {
	for _, s := range []scene{
		of(t), of(t, 8), of(t, 10), of(t, 8, 10), of(t, 0, top), of(t, even(api.MaxNodes)...), {&ring.Ring{}, nil}, {nil, nil},
	} {
		for _, v := range append(s.asked(), 9) {
			for _, links := range []map[uint32][]uint32{nil, {}, {9: s.points}, {9: {v, 9}, 8: {10}, 10: {8}}} {
				if got, is := way(t, s.ring, links, 9, v); len(got) != 0 || is {
					t.Errorf("of %v: Way(%v, 9, %d): %v, %v; want none", s.points, links, v, got, is)
				}
			}
		}
	}
}

// TestP13_2WayAlong: without links, and with links that each point has to all that lie behind v, one comes by all points
// from at to the owner of v; with links to all points by at, the one ahead of v, and the owner alone.
func TestP13_2WayAlong(t *testing.T) {
	for n := range api.MaxNodes {
		s := of(t, even(n+1)...)
		twice := append(slices.Clone(s.points), s.points...)
		all := map[uint32][]uint32{}
		for _, p := range s.points {
			all[p] = s.points
		}
		for i, at := range s.points {
			for k, v := range twice[i : i+len(s.points)] {
				along := twice[i : i+k+1]
				if got, is := way(t, s.ring, nil, at, v); !slices.Equal(got, along) || !is {
					t.Fatalf("of %v: Way(no links, %d, %d): %v, %v; want %v", s.points, at, v, got, is, along)
				}
				short := slices.Compact([]uint32{at, twice[i+max(k-1, 0)], v})
				if got, is := way(t, s.ring, all, at, v); !slices.Equal(got, short) || !is {
					t.Fatalf("of %v: Way(all links, %d, %d): %v, %v; want %v", s.points, at, v, got, is, short)
				}
			}
		}
	}
}

// TestP13_2WayFew asks of rings of a few points, each of which has whatever links there may be, for values all round the
// circle.
func TestP13_2WayFew(t *testing.T) {
	for _, l := range [][]uint32{{half}, {0, top}, {10, 20, 30}, {top - 2, top, 3}, {0, half, top}} {
		s := of(t, l...)
		some := parts(l)
		for k := range int(math.Pow(float64(len(some)), float64(len(l)))) {
			links := map[uint32][]uint32{}
			for _, p := range l {
				links[p] = some[k%len(some)]
				k /= len(some)
			}
			for _, v := range s.asked() {
				for _, at := range append(s.points, v) {
					s.way(t, "few points", links, at, v)
				}
			}
		}
	}
}

// TestP13_Everywhere asks of strewn rings with strewn links, and holds that against a plain reference; all that the
// chapter names was come to.
func TestP13_Everywhere(t *testing.T) {
	var sum met
	longest, shortened := 0, 0
	for seed := range uint64(600) {
		next := roll(seed)
		p := []uint32{0, 1, half - 1, half, top - 100, top}[next(6)] + uint32(next(50))
		s := of(t, append(strewn(next, p, next(api.MaxNodes-1)), p)...)
		links := strewnLinks(next, s)
		asked := s.asked()
		for range 60 {
			at, v := s.points[next(len(s.points))], asked[next(len(asked))]
			if next(20) == 0 {
				at += uint32(next(3)) - 1
			}
			sum.add(s.next(t, "strewn", links[at], at, v))
			by, without := s.way(t, "strewn", links, at, v), s.way(t, "strewn, no links", nil, at, v)
			longest = max(longest, len(without))
			if len(by) > len(without) {
				t.Fatalf("of %v: Way(%d, %d): by links %v; without %v", s.points, at, v, by, without)
			}
			if len(by) < len(without) {
				shortened++
			}
		}
	}
	if min(sum.noPoint, sum.owned, sum.owner, sum.next, sum.link, sum.seam, shortened) < 500 || longest < 40 {
		t.Errorf("not all that there is was come to: %+v, shortened %d, the longest %d", sum, shortened, longest)
	}
}

// strewnLinks is links of points, and of what is none: to points, to at itself, and to what is none.
func strewnLinks(next func(int) int, s scene) map[uint32][]uint32 {
	links := map[uint32][]uint32{}
	for _, p := range append(strewn(next, s.points[0], 5), s.points...) {
		for range next(2 * api.MaxLinks) {
			link := s.points[next(len(s.points))]
			switch next(8) {
			case 0:
				link++
			case 1:
				link--
			case 2:
				link = p
			}
			links[p] = append(links[p], link)
		}
	}
	return links
}

// TestWhatFollows: each step comes nearer, to v's owner at last; so a way has no more points than the ring.
func TestWhatFollows(t *testing.T) {
	for seed := range uint64(100) {
		next := roll(seed)
		s := of(t, strewn(next, uint32(next(half)), 1+next(api.MaxNodes))...)
		links := strewnLinks(next, s)
		for _, v := range s.asked() {
			owner, _ := s.ring.Owner(v)
			for _, at := range s.points {
				got, is := way(t, s.ring, links, at, v)
				if !is || len(got) == 0 || len(got) > len(s.points) || got[0] != at || got[len(got)-1] != owner {
					t.Fatalf("of %v: Way(%v, %d, %d): %v, %v", s.points, links, at, v, got, is)
				}
				for i, p := range got[1:] {
					if circle.Far(p, owner) >= circle.Far(got[i], owner) {
						t.Fatalf("of %v: Way(%v, %d, %d): %v: it goes off at %d", s.points, links, at, v, got, p)
					}
				}
			}
		}
	}
}

// TestR1: whatever is handed in, it answers; a ring that New did not make has no points, and takes some.
func TestR1(t *testing.T) {
	values := []uint32{0, 1, half, top}
	for _, r := range []*ring.Ring{nil, {}, ring.New()} {
		for _, at := range values {
			for _, v := range values {
				for _, links := range [][]uint32{nil, {}, values} {
					if got, is := greedy.Next(r, links, at, v); got != 0 || is {
						t.Errorf("of no points: Next(%v, %d, %d): %d, %v; want none", links, at, v, got, is)
					}
					if got, is := way(t, r, map[uint32][]uint32{at: links, v: links}, at, v); len(got) != 0 || is {
						t.Errorf("of no points: Way(%v, %d, %d): %v, %v; want none", links, at, v, got, is)
					}
				}
				if got, is := way(t, r, nil, at, v); len(got) != 0 || is {
					t.Errorf("of no points, no map: Way(%d, %d): %v, %v; want none", at, v, got, is)
				}
			}
		}
	}
	s := scene{&ring.Ring{}, values}
	for _, p := range s.points {
		s.ring.Add(p)
	}
	for _, v := range s.asked() {
		for _, at := range s.points {
			s.next(t, "a ring that New did not make", values, at, v)
			s.way(t, "a ring that New did not make", map[uint32][]uint32{0: {half}, 1: values}, at, v)
		}
	}
}

// TestR2: the same ring and links tell the same, however they were made, and whatever was asked in between.
func TestR2(t *testing.T) {
	for seed := range uint64(30) {
		next := roll(seed)
		l := strewn(next, top-40, 30)
		s, other := of(t, l...), of(t, even(9)...)
		links := strewnLinks(next, s)
		slices.Reverse(l)
		made := ring.New()
		for _, p := range append(l, l[3]+1) {
			made.Add(p)
		}
		if !slices.Contains(l, l[3]+1) {
			made.Drop(l[3] + 1)
		}
		plain := *s.ring
		for what, r := range map[string]*ring.Ring{"again": s.ring, "made otherwise": made, "a fork": s.ring.Fork(), "a plain copy": &plain} {
			one := scene{r, s.points}
			for _, v := range s.asked() {
				at := s.points[next(len(s.points))]
				other.next(t, "another one", s.points, other.points[next(9)], v)
				other.way(t, "another one", links, other.points[next(9)], v)
				one.next(t, what, links[at], at, v)
				one.way(t, what, copied(links), at, v)
			}
		}
	}
}

// TestR2Changed: what a ring is asked hangs on the points that it has by then.
func TestR2Changed(t *testing.T) {
	s := of(t, 10, 20, 30, 40, 50)
	links := map[uint32][]uint32{10: {25, 30, 40}, 25: {40}}
	s.way(t, "ahead of changes", links, 10, 45)
	for _, deed := range []struct {
		drop bool
		p    uint32
		want []uint32
	}{
		{true, 40, []uint32{10, 30, 50}}, {true, 30, []uint32{10, 20, 50}}, {false, 25, []uint32{10, 25, 50}},
		{false, 40, []uint32{10, 40, 50}}, {true, 50, []uint32{10}}, {false, 45, []uint32{10, 40, 45}}, {false, 42, []uint32{10, 40, 42, 45}},
	} {
		change := s.ring.Add
		if deed.drop {
			change = s.ring.Drop
		}
		if err := change(deed.p); err != api.OK {
			t.Fatalf("a change of %d: error %d", deed.p, err)
		}
		if got, is := way(t, s.ring, links, 10, 45); !slices.Equal(got, deed.want) || !is {
			t.Errorf("behind a change of %d: Way(10, 45): %v, %v; want %v", deed.p, got, is, deed.want)
		}
	}
}

// TestR2Together: one ring, one map and one list may be asked by many at the same time.
func TestR2Together(t *testing.T) {
	next := roll(5)
	s := of(t, strewn(next, 9, 50)...)
	links, asked, at := strewnLinks(next, s), s.asked(), s.points[3]
	var ways [][]uint32
	for _, v := range asked {
		ways = append(ways, s.way(t, "ahead of the others", links, at, v))
	}
	var jobs sync.WaitGroup
	for range 8 {
		jobs.Go(func() {
			for i, v := range asked {
				if got, is := greedy.Way(s.ring, links, at, v); !slices.Equal(got, ways[i]) || !is {
					t.Errorf("at the same time: Way(%d, %d): %v, %v; want %v", at, v, got, is, ways[i])
				}
				got, is := greedy.Next(s.ring, links[at], at, v)
				if goesOn := len(ways[i]) > 1; is != goesOn || goesOn && got != ways[i][1] {
					t.Errorf("at the same time: Next(%d, %d): %d, %v; want %v", at, v, got, is, ways[i])
				}
			}
		})
	}
	jobs.Wait()
}

// TestR3Out: who writes into a way that was told, and into the room behind its end, changes nothing else; what was told
// stays, whatever becomes of the ring and the links.
func TestR3Out(t *testing.T) {
	for seed := range uint64(30) {
		next := roll(seed)
		s := of(t, append(strewn(next, top-70, 30), top-70)...)
		links, fork := strewnLinks(next, s), s.ring.Fork()
		was := copied(links)
		for _, v := range s.asked() {
			first, _ := way(t, s.ring, links, top-70, v)
			second, _ := way(t, s.ring, links, top-70, v)
			want := slices.Clone(second)
			spoil(first)
			if !slices.Equal(second, want) {
				t.Errorf("another answer was spoilt: %v; want %v", second, want)
			}
			s.way(t, "spoilt", was, top-70, v)
			s.way(t, "spoilt, the links that were handed in", links, top-70, v)
			scene{fork, s.points}.way(t, "spoilt, a fork", was, top-70, v)
			changed := copied(links)
			third, _ := way(t, fork, changed, top-70, v)
			for _, l := range changed {
				spoil(l)
			}
			clear(changed)
			fork.Drop(top - 70)
			fork.Add(top - 70)
			if !slices.Equal(third, want) {
				t.Errorf("told ahead of changes: %v; want %v", third, want)
			}
		}
	}
}

// TestR3In: the links and the map that are handed in, and the room behind their ends, stay as they were.
func TestR3In(t *testing.T) {
	s := of(t, 10, 20, 30, 40, 50)
	room := []uint32{50, 40, 10, 30, 30, 25, 77, 30, 40, 99}
	for n := range len(room) + 1 {
		for _, v := range s.asked() {
			for _, at := range s.points {
				memory := slices.Clone(room)
				links := map[uint32][]uint32{at: memory[:n], 98: nil, 99: memory[:n]}
				greedy.Next(s.ring, memory[:n], at, v)
				way(t, s.ring, links, at, v)
				if !slices.Equal(memory, room) {
					t.Fatalf("Next or Way(%d, %d) of links %v wrote into them: %v; want %v", at, v, room[:n], memory, room)
				}
				if len(links) != 3 || len(links[at]) != n || len(links[98]) != 0 || len(links[99]) != n {
					t.Fatalf("Way(%d, %d) of links %v changed the map: %v", at, v, room[:n], links)
				}
				s.check(t, "asked")
			}
		}
	}
}
