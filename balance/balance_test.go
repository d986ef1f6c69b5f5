package balance_test

import (
	"math"
	"slices"
	"strconv"
	"sync"
	"testing"

	"petasos/api"
	"petasos/balance"
)

// TestExample is the chapter's.
func TestExample(t *testing.T) {
	for _, n := range []int{1, 2, 3, 5, 64} {
		for _, has := range []int{0, 1, 7, 10_000, cap31} {
			l := loads(several(n, has)...)
			for _, shelf := range [][]api.Entry{nil, entries(5), entries(5, 6), entries(5, 6, 7), entries(11, 12, 13, 14)} {
				if got, err := balance.Plan(l, shelf); err != api.ErrEven || got != (api.Move{}) {
					t.Errorf("Plan of %d loads of %d, %d entries: %v, error %d; want error %d", n, has, len(shelf), got, err, api.ErrEven)
				}
			}
		}
	}
}

// TestP17_1Heavy: the one with the most, if that is more than twice the mean, in whatever order the loads stand.
func TestP17_1Heavy(t *testing.T) {
	for _, r := range []struct {
		what string
		l    []api.Load
		want told
	}{
		{"nil", nil, none},
		{"none", []api.Load{}, none},
		{"one of nothing", loads(0), none},
		{"one", loads(7), none},
		{"one of the most", loads(cap31), none},
		{"one at 0", []api.Load{at(0, 5)}, none},
		{"two of nothing", loads(0, 0), none},
		{"two alike", loads(4, 4), none},
		{"two of which one has all, just at", loads(0, 100), none},
		{"two of which one has all but a bit", loads(1, 1000), none},
		{"two of which one has the most that there may be", loads(0, cap31), none},
		{"several of nothing", loads(0, 0, 0, 0, 0), none},
		{"several alike", loads(9, 9, 9, 9, 9), none},
		{"one of three has all", loads(0, 0, 1), one(30, 1)},
		{"just above, of three", loads(1, 1, 5), one(30, 5)},
		{"just at, of three", loads(1, 1, 4), none},
		{"just below, of three", loads(1, 1, 3), none},
		{"just above, of three with many", loads(1000, 1000, 4001), one(30, 4001)},
		{"just at, of three with many", loads(1000, 1000, 4000), none},
		{"just below, of three with many", loads(1000, 1000, 3999), none},
		{"just above, of four", loads(1, 7, 2, 3), one(20, 7)},
		{"just at, of four", loads(1, 6, 2, 3), none},
		{"just below, of four", loads(1, 5, 2, 3), none},
		{"just above, of several", loads(40, 5, 0, 17, 8, 9), one(10, 40)},
		{"just at, of several", loads(20, 5, 0, 17, 8, 10), none},
		{"just below, of several", loads(19, 5, 0, 17, 8, 10), none},
		{"above the mean, not above twice that", loads(5, 5, 5, 9), none},
		{"below the mean is none", loads(0, 9, 9, 9), none},
		{"just above, of many", loads(append(several(125, 1), 0, 0, 2)...), one(1280, 2)},
		{"just at, of many", loads(append(several(126, 1), 0, 2)...), none},
		{"just below, of many", loads(append(several(127, 1), 2)...), none},
		{"just above by a bit that was cut off, of many", loads(append(several(597, 1), 0, 0, 2)...), one(6000, 2)},
		{"just at, of 64", loads(append(several(62, 1), 2)...), none},
		{"a mean that was cut off, just above", loads(append(several(65, 0), several(64, 1)...)...), one(660, 1)},
		{"just at, no mean that was cut off", loads(append(several(64, 0), several(64, 1)...)...), none},
		{"a mean that was cut off, just below", loads(append(several(64, 0), several(65, 1)...)...), none},
		{"a mean that was cut off to nothing", loads(append(several(300, 0), 1)...), one(3010, 1)},
		{"a mean that was cut off, of three", loads(0, 1, 3), one(30, 3)},
		{"several alike have the most", loads(0, 9, 0, 9, 0, 0, 0), one(20, 9)},
		{"the least point stands last", []api.Load{at(50, 9), at(40, 0), at(30, 9), at(20, 0), at(60, 0), at(70, 0), at(10, 9)}, one(10, 9)},
		{"the least point stands first", []api.Load{at(10, 9), at(40, 0), at(30, 9), at(20, 0), at(60, 0), at(70, 0), at(50, 9)}, one(10, 9)},
		{"the least point stands in between", []api.Load{at(50, 9), at(40, 0), at(3, 9), at(20, 0), at(60, 0), at(70, 0), at(10, 9)}, one(3, 9)},
		{"the least point has fewer", []api.Load{at(5, 8), at(7, 9), at(6, 0), at(4, 0), at(8, 0), at(9, 0)}, one(7, 9)},
		{"the greatest point has more", []api.Load{at(5, 8), at(top, 9), at(6, 0), at(4, 0), at(8, 0), at(0, 0)}, one(top, 9)},
		{"several alike, one at 0", []api.Load{at(top, 9), at(1, 0), at(0, 9), at(half, 0), at(7, 0), at(8, 0)}, one(0, 9)},
		{"several alike, one at the greatest value", []api.Load{at(top, 9), at(1, 0), at(2, 0), at(top-1, 9), at(7, 0), at(8, 0)}, one(top-1, 9)},
		{"several alike, to either side of half", []api.Load{at(half, 9), at(1, 0), at(half-1, 9), at(half+1, 9), at(7, 0), at(8, 0), at(9, 0)}, one(half-1, 9)},
		{"several alike, half round from each other", []api.Load{at(half+5, 9), at(1, 0), at(6, 0), at(5, 9), at(7, 0), at(8, 0)}, one(5, 9)},
		{"several alike that 16 bits do not tell apart", []api.Load{at(1<<16+5, 9), at(1, 0), at(5<<16+5, 9), at(2, 0), at(3, 0), at(4, 0)}, one(1<<16+5, 9)},
		{"several alike have too little", loads(4, 9, 9, 9), none},
		{"many alike have the most", loads(append(several(40, 0), several(19, 3)...)...), one(410, 3)},
		{"alike, just at", loads(append(several(20, 0), several(20, 3)...)...), none},
		{"what 8 bits do not tell", loads(256, 0, 0, 1), one(10, 256)},
		{"16 bits", loads(0, 1<<16, 0, 1<<8), one(20, 1<<16)},
		{"above what 24 bits tell", loads(0, 1<<24, 0), one(20, 1<<24)},
		{"parts of which 31 bits do not tell", loads(1<<23, 0, 0), one(10, 1<<23)},
		{"twice the mean is 2^32, just above", loads(1<<24+1, 1<<24-1, 0, 0), one(10, 1<<24+1)},
		{"twice the mean is 2^32, just at", loads(1<<24, 1<<23, 1<<23, 0), none},
		{"twice the mean is above 2^32", loads(1<<24+1, 1<<24, 1, 0), none},
		{"the mean is 2^32, just above", loads(1<<25+1, 1<<25-1, 0, 0), one(10, 1<<25+1)},
		{"the mean is 2^32, just at", loads(1<<25, 1<<24, 1<<24, 0), none},
		{"twice the mean is 2^33, just above by little", loads(1<<25+1, 1, 0, 1<<25-2), one(10, 1<<25+1)},
		{"the most there may be", loads(0, cap31, 0), one(20, cap31)},
		{"several of the most there may be", loads(0, cap31, 0, cap31, 0), one(20, cap31)},
		{"the most there may be, just above", loads(1<<29, cap31, 1<<29-1, 1<<30-1), one(20, cap31)},
		{"the most there may be, just at", loads(1<<29, cap31, 1<<29, 1<<30-1), none},
		{"one less than the most", loads(cap31-1, 0, 0, cap31-2), one(10, cap31-1)},
		{"one less than the most, of two", loads(cap31-1, 0, 0, 0, cap31), one(50, cap31)},
		{"all of the most there may be", loads(several(64, cap31)...), none},
		{"all but one of the most there may be", loads(append(several(63, cap31), 0)...), none},
	} {
		for _, l := range turned(r.l) {
			if got, _ := ask(t, r.what, l); got != r.want {
				t.Errorf("%s: Heavy of %v ..: %v; want %v", r.what, few(l), got, r.want)
			}
		}
	}
}

// TestP17_1Light: the one with the fewest, if that is less than half of the mean, in whatever order the loads stand.
func TestP17_1Light(t *testing.T) {
	for _, r := range []struct {
		what string
		l    []api.Load
		want told
	}{
		{"nil", nil, none},
		{"none", []api.Load{}, none},
		{"one of nothing", loads(0), none},
		{"one", loads(7), none},
		{"one of the most", loads(cap31), none},
		{"one at 0", []api.Load{at(0, 5)}, none},
		{"two of nothing", loads(0, 0), none},
		{"two alike", loads(4, 4), none},
		{"one of two has nothing", loads(1, 0), one(20, 0)},
		{"just below, of two", loads(1, 4), one(10, 1)},
		{"just at, of two", loads(1, 3), none},
		{"just above, of two", loads(1, 2), none},
		{"just below, of two with many", loads(1000, 3001), one(10, 1000)},
		{"just at, of two with many", loads(1000, 3000), none},
		{"just above, of two with many", loads(1000, 2999), none},
		{"several of nothing", loads(0, 0, 0, 0, 0), none},
		{"several alike", loads(9, 9, 9, 9, 9), none},
		{"just below, of three", loads(3, 1, 3), one(20, 1)},
		{"just at, of three", loads(2, 1, 3), none},
		{"just above, of three", loads(2, 1, 2), none},
		{"just below, of several", loads(20, 5, 12, 17, 8), one(20, 5)},
		{"just at, of several", loads(20, 6, 9, 17, 8), none},
		{"just above, of several", loads(20, 6, 8, 17, 8), none},
		{"below the mean, not below half of that", loads(5, 3, 5, 5), none},
		{"above the mean is none", loads(9, 8, 8, 8), none},
		{"a mean of a bit", loads(append(several(255, 0), 1)...), one(10, 0)},
		{"a mean that was cut off to nothing", loads(append(several(256, 0), 1)...), none},
		{"a mean that was cut off to a bit", loads(append(several(256, 0), 2)...), one(10, 0)},
		{"a mean that was cut off to just twice as much", loads(append(several(254, 2), 1, 3, 3)...), none},
		{"a mean of just twice as much", loads(append(several(255, 2), 1, 3)...), none},
		{"a mean that was cut off to a bit more", loads(append(several(253, 2), 1, 3, 3, 3)...), one(2540, 1)},
		{"a mean that was cut off, of many", loads(append(several(600, 0), 1, 1)...), none},
		{"several alike have the fewest", loads(9, 0, 9, 0, 9), one(20, 0)},
		{"the least point stands last", []api.Load{at(50, 1), at(40, 9), at(30, 1), at(20, 9), at(10, 1)}, one(10, 1)},
		{"the least point stands first", []api.Load{at(10, 1), at(40, 9), at(30, 1), at(20, 9), at(50, 1)}, one(10, 1)},
		{"the least point stands in between", []api.Load{at(50, 1), at(40, 9), at(3, 1), at(20, 9), at(10, 1)}, one(3, 1)},
		{"the least point has more", []api.Load{at(5, 2), at(7, 1), at(6, 9), at(4, 9)}, one(7, 1)},
		{"the greatest point has fewer", []api.Load{at(5, 2), at(top, 1), at(6, 9), at(0, 9)}, one(top, 1)},
		{"several alike, one at 0", []api.Load{at(top, 1), at(1, 9), at(0, 1), at(half, 9)}, one(0, 1)},
		{"several alike, one at the greatest value", []api.Load{at(top, 1), at(1, 9), at(2, 9), at(top-1, 1)}, one(top-1, 1)},
		{"several alike, to either side of half", []api.Load{at(half, 1), at(1, 9), at(half-1, 1), at(half+1, 1), at(7, 9)}, one(half-1, 1)},
		{"several alike, half round from each other", []api.Load{at(half+5, 1), at(1, 9), at(6, 9), at(5, 1)}, one(5, 1)},
		{"several alike that 16 bits do not tell apart", []api.Load{at(1<<16+5, 1), at(1, 9), at(5<<16+5, 1), at(2, 9)}, one(1<<16+5, 1)},
		{"several alike have too much", loads(4, 7, 4, 4), none},
		{"many alike have the fewest", loads(append(several(19, 9), several(40, 2)...)...), one(200, 2)},
		{"alike, just at", loads(append(several(20, 9), several(20, 3)...)...), none},
		{"all but one have nothing", loads(0, 0, 0, 50, 0), one(10, 0)},
		{"what 8 bits do not tell", loads(256, 1000, 0x100+0x100*4), one(10, 256)},
		{"16 bits", loads(1<<16, 1<<20, 1<<18), one(10, 1<<16)},
		{"parts of which 31 bits do not tell", loads(1<<22, 1<<25), one(10, 1<<22)},
		{"parts of which 32 bits do not tell", loads(1<<23, 1<<26), one(10, 1<<23)},
		{"the mean is 2^32, just below", loads(1<<23, 3<<23+1), one(10, 1<<23)},
		{"the mean is 2^32, just at", loads(1<<23, 3<<23), none},
		{"the mean is just below 2^32", loads(1<<23, 3<<23-1), none},
		{"little, and a mean of 2^32", loads(5, 1<<25-5), one(10, 5)},
		{"512 times comes round to little", loads(1<<23, 1<<23+5, 1<<24), none},
		{"the mean comes round to little", loads(3, 1<<25), one(10, 3)},
		{"beside the most there may be", loads(0, cap31, cap31), one(10, 0)},
		{"much, beside the most there may be", loads(1<<29, cap31, cap31), one(10, 1<<29)},
		{"the most there may be, just below", loads(715827882, cap31), one(10, 715827882)},
		{"the most there may be less one, just at", loads(715827882, cap31-1), none},
		{"the most there may be, just above", loads(715827883, cap31), none},
		{"one less than the most", loads(cap31, cap31-1, cap31), none},
		{"all of the most there may be", loads(several(64, cap31)...), none},
		{"all but one of the most there may be", loads(append(several(63, cap31), 0)...), one(640, 0)},
	} {
		for _, l := range turned(r.l) {
			if _, got := ask(t, r.what, l); got != r.want {
				t.Errorf("%s: Light of %v ..: %v; want %v", r.what, few(l), got, r.want)
			}
		}
	}
}

// TestP17_1Each: in each place of lists of up to MaxNodes loads, and more, at points that rise, fall, or do neither.
func TestP17_1Each(t *testing.T) {
	for _, n := range []int{3, 4, 5, 8, 33, api.MaxNodes, 130} {
		for _, step := range []uint32{1, 10, half - 1, half + 1, math.MaxUint32, 0x9e3779b1} {
			for place := range n {
				l := loads(several(n, 100)...)
				for i := range l {
					l[i].Point = 7 + uint32(i)*step
				}
				l[place].Entries = 10_000
				if heavy, _ := ask(t, "each", l); heavy != (told{l[place], true}) {
					t.Errorf("%d loads of 100, and of 10,000 at the place %d: Heavy %v", n, place, heavy)
				}
				l[place].Entries = 30
				if heavy, light := ask(t, "each", l); heavy.ok || light != (told{l[place], true}) {
					t.Errorf("%d loads of 100, and of 30 at the place %d: Heavy %v, Light %v", n, place, heavy, light)
				}
			}
		}
	}
}

// TestP17_1Small: all loads of up to four points, of some numbers of entries, in all orders of the points.
func TestP17_1Small(t *testing.T) {
	few, heavies, lights := []int{0, 1, 2, 3, 5, 8, 9, 16}, 0, 0
	for n := range 5 {
		for _, o := range orders([]api.Load{{Point: 0}, {Point: 9}, {Point: half}, {Point: top}}[:n]) {
			places := make([]int, n)
			for more := true; more; {
				for i, p := range places {
					o[i].Entries = few[p]
				}
				heavy, light := ask(t, "small", o)
				if heavy.ok {
					heavies++
				}
				if light.ok {
					lights++
				}
				more = false
				for i := range places {
					if places[i]++; places[i] < len(few) {
						more = true
						break
					}
					places[i] = 0
				}
			}
		}
	}
	if heavies < 1000 || lights < 1000 {
		t.Errorf("of all small loads a heavy one is in %d, a light one in %d", heavies, lights)
	}
}

// TestP17_1Ties: of those that have as much the least point counts, in all orders.
func TestP17_1Ties(t *testing.T) {
	for _, o := range orders([]api.Load{at(half, 40), at(1000, 40), at(top, 1), at(9, 1), at(77, 2), at(5, 3)}) {
		heavy, light := ask(t, "ties", o)
		if heavy != one(1000, 40) || light != one(9, 1) {
			t.Errorf("%v: Heavy %v, Light %v; want 1000, 9", o, heavy, light)
		}
	}
	for _, o := range orders([]api.Load{at(half, 0), at(0, cap31), at(top, 0), at(1, 0), at(top-1, cap31), at(half-1, 0)}) {
		heavy, light := ask(t, "ties at the ends", o)
		if heavy != one(0, cap31) || light != one(1, 0) {
			t.Errorf("%v: Heavy %v, Light %v; want 0, 1", o, heavy, light)
		}
	}
}

// TestP17_1Many: far more loads than there may be nodes.
func TestP17_1Many(t *testing.T) {
	for _, n := range []int{1000, 10_001, 1 << 17} {
		l := loads(several(n, 1000)...)
		for i := range l {
			l[i].Point *= 0x9e3779b1 // odd: so each comes to another one
		}
		heavy, light, again := l[n/3].Point, l[n/2].Point, l[n-1].Point
		ask(t, "many alike", l)
		l[n/3].Entries, l[n/2].Entries = 2010, 490
		if h, g := ask(t, "many", l); h != one(heavy, 2010) || g != one(light, 490) {
			t.Errorf("%d loads: Heavy %v, Light %v; want %d, %d", n, h, g, heavy, light)
		}
		l[n-1].Entries = 2010
		if h, _ := ask(t, "many, two of the most", l); h != one(min(heavy, again), 2010) {
			t.Errorf("%d loads: Heavy %v; want %d", n, h, min(heavy, again))
		}
		l[n-1].Entries = 490
		if _, g := ask(t, "many, two of the fewest", l); g != one(min(light, again), 490) {
			t.Errorf("%d loads: Light %v; want %d", n, g, min(light, again))
		}
		l[n/3].Entries, l[n/2].Entries, l[n-1].Entries = 1990, 510, 1000
		if h, g := ask(t, "many, not far enough from the mean", l); h != none || g != none {
			t.Errorf("%d loads: Heavy %v, Light %v; want none", n, h, g)
		}
		l[n/3].Entries, l[n/2].Entries = cap31, 0
		ask(t, "many, one of the most that there may be", l)
	}
}

// TestP17_1MayBe: entries from 0 to 2^31 - 1 may be, wherever they stand; others may not, and there is none then.
func TestP17_1MayBe(t *testing.T) {
	uneven := loads(3, 100, 0, 7, 8, 2, 9, 1)
	if heavy, light := ask(t, "as they may be", uneven); heavy != one(20, 100) || light != one(30, 0) {
		t.Fatalf("Heavy %v, Light %v; want 20, 30", heavy, light)
	}
	for i := range uneven {
		for _, has := range []int{0, 1, cap31 - 1, cap31} {
			l := slices.Clone(uneven)
			l[i].Entries = has
			if heavy, light := ask(t, "may be", l); !light.ok || !heavy.ok && i != 1 {
				t.Errorf("%v: Heavy %v, Light %v; want some", l, heavy, light)
			}
			if why := plan(t, "may be", l, entries(1, 2, 3)); why == "may not be" {
				t.Errorf("%v may be", l)
			}
		}
		for _, has := range bad() {
			l := slices.Clone(uneven)
			l[i].Entries = has
			refused(t, "one that may not be", l)
			l[(i+3)%len(l)].Entries = -has
			refused(t, "one that may not be, and another one", l)
		}
	}
	for _, has := range bad() {
		for n := range 10 {
			refused(t, "all may not be", loads(several(n+1, has)...))
		}
		refused(t, "the last of many may not be", loads(append(append(several(500, 3), 9999), has)...))
		refused(t, "the first of many may not be", loads(append([]int{has, 9999}, several(500, 3)...)...))
	}
}

// TestP17_1Twice: no point may be there twice, wherever, and whatever entries it has there.
func TestP17_1Twice(t *testing.T) {
	for _, n := range []int{2, 3, 4, 9, api.MaxNodes} {
		for i := range n {
			for j := range i {
				for _, p := range []uint32{0, 7, half, top} {
					l := loads(several(n, 10)...)
					l[0].Entries, l[n/2].Entries = 1, 9000
					l[i].Point, l[j].Point = p, p
					refused(t, "twice", l)
					l[i].Entries, l[j].Entries = 5, 5
					refused(t, "twice the same", l)
					l[i].Entries, l[j].Entries = 0, cap31
					refused(t, "twice, nothing and the most", l)
					l[j].Point ^= 1 << (i % 32)
					if !plainMayBe(l) {
						continue
					}
					if heavy, light := ask(t, "points of which a bit is another one", l); !light.ok || heavy.ok != (n > 2) {
						t.Errorf("%v: Heavy %v, Light %v", l, heavy, light)
					}
				}
			}
		}
	}
	refused(t, "all are one", slices.Repeat([]api.Load{at(9, 4)}, 100))
	refused(t, "all are one, of other entries", []api.Load{at(9, 0), at(9, 1), at(9, 1000), at(9, 2)})
	refused(t, "three times", []api.Load{at(9, 0), at(8, 1), at(9, 1000), at(7, 2), at(9, 5)})
	refused(t, "two of them twice", []api.Load{at(9, 0), at(8, 1), at(9, 1000), at(8, 2)})
	refused(t, "twice, where others may not be, too", []api.Load{at(9, 0), at(8, -1), at(9, 1000), at(7, 2)})
	many := loads(several(20_000, 1)...)
	many[19_999].Point = many[3].Point
	many[7].Entries, many[8].Entries = 0, 1000
	refused(t, "twice, far apart", many)
}

// refused holds that loads may not be so: there is neither a heavy nor a light one, and no move, whatever the shelf.
func refused(t *testing.T, what string, l []api.Load) {
	t.Helper()
	if got, ok := balance.Heavy(l); ok || got != (api.Load{}) {
		t.Errorf("%s: %v ..: Heavy %v, %v; want none", what, few(l), got, ok)
	}
	if got, ok := balance.Light(l); ok || got != (api.Load{}) {
		t.Errorf("%s: %v ..: Light %v, %v; want none", what, few(l), got, ok)
	}
	p := l[0].Point
	for _, shelf := range [][]api.Entry{nil, {}, entries(p), entries(p-1, p), entries(p-3, p-2, p-1), entries(1, 2, 3, 4, 5)} {
		if got, err := balance.Plan(l, shelf); err != api.ErrArg || got != (api.Move{}) {
			t.Errorf("%s: %v ..: Plan of %d entries: %v, error %d; want error %d", what, few(l), len(shelf), got, err, api.ErrArg)
		}
	}
}

// TestP17_2Plan: From is the light one's point, To the value of the entry in the middle.
func TestP17_2Plan(t *testing.T) {
	three := []api.Load{at(10, 0), at(20, 5), at(30, 50)}
	ends := []api.Load{at(0, 50), at(half, 1), at(top, 2)}
	round := []api.Load{at(top, 3), at(5, 90), at(half, 4)}
	for _, r := range []struct {
		what  string
		l     []api.Load
		shelf []api.Entry
		want  api.Move
		err   api.Errno
	}{
		{"of two the second", three, entries(22, 25), api.Move{From: 10, To: 25}, api.OK},
		{"of three the second", three, entries(22, 25, 28), api.Move{From: 10, To: 25}, api.OK},
		{"of four the third", three, entries(22, 25, 28, 29), api.Move{From: 10, To: 28}, api.OK},
		{"of five the third", three, entries(21, 22, 25, 28, 29), api.Move{From: 10, To: 25}, api.OK},
		{"of six the fourth", three, entries(21, 22, 23, 24, 25, 26), api.Move{From: 10, To: 24}, api.OK},
		{"of seven the fourth", three, entries(21, 22, 23, 24, 25, 26, 27), api.Move{From: 10, To: 24}, api.OK},
		{"of nothing", three, nil, api.Move{}, api.ErrEven},
		{"of an empty shelf", three, []api.Entry{}, api.Move{}, api.ErrEven},
		{"of one", three, entries(22), api.Move{}, api.ErrEven},
		{"of one, at the heavy one's point", three, entries(30), api.Move{}, api.ErrEven},
		{"the second of two at the heavy one's point", three, entries(22, 30), api.Move{}, api.ErrEven},
		{"the first of two at the heavy one's point", three, entries(30, 22), api.Move{From: 10, To: 22}, api.OK},
		{"both of two at the heavy one's point", three, entries(30, 30), api.Move{}, api.ErrEven},
		{"the second of three at the heavy one's point", three, entries(22, 30, 30), api.Move{}, api.ErrEven},
		{"the middle one of three alone at the heavy one's point", three, entries(22, 30, 25), api.Move{}, api.ErrEven},
		{"the last of three at the heavy one's point", three, entries(22, 25, 30), api.Move{From: 10, To: 25}, api.OK},
		{"all but the middle one of three at the heavy one's point", three, entries(30, 25, 30), api.Move{From: 10, To: 25}, api.OK},
		{"the second of four at the heavy one's point", three, entries(22, 30, 28, 29), api.Move{From: 10, To: 28}, api.OK},
		{"the third of four at the heavy one's point", three, entries(22, 28, 30, 29), api.Move{}, api.ErrEven},
		{"all but the middle one of four at the heavy one's point", three, entries(30, 30, 28, 30), api.Move{From: 10, To: 28}, api.OK},
		{"all of one value", three, entries(27, 27, 27, 27, 27), api.Move{From: 10, To: 27}, api.OK},
		{"two of one value", three, entries(27, 27), api.Move{From: 10, To: 27}, api.OK},
		{"in no order", three, entries(29, 21, 26, 28, 22), api.Move{From: 10, To: 26}, api.OK},
		{"falling", three, entries(29, 28, 26, 24), api.Move{From: 10, To: 26}, api.OK},
		{"a value next to the heavy one's point", three, entries(29, 29), api.Move{From: 10, To: 29}, api.OK},
		{"a value behind the heavy one's point", three, entries(29, 31), api.Move{From: 10, To: 31}, api.OK},
		{"a value that 16 bits do not tell from the heavy one's point", three, entries(29, 1<<16+30), api.Move{From: 10, To: 1<<16 + 30}, api.OK},
		{"a value half round from the heavy one's point", three, entries(29, half+30), api.Move{From: 10, To: half + 30}, api.OK},
		{"the light one's point", three, entries(29, 10), api.Move{From: 10, To: 10}, api.OK},
		{"the point of another one", three, entries(29, 20), api.Move{From: 10, To: 20}, api.OK},
		{"the value 0", three, entries(29, 0, 29), api.Move{From: 10, To: 0}, api.OK},
		{"the greatest value", three, entries(0, top, 0), api.Move{From: 10, To: top}, api.OK},
		{"the heavy one at 0", ends, entries(top-5, top-1), api.Move{From: half, To: top - 1}, api.OK},
		{"the heavy one at 0, its point", ends, entries(top-5, 0), api.Move{}, api.ErrEven},
		{"the heavy one at 0, far from it", ends, entries(top-5, 1), api.Move{From: half, To: 1}, api.OK},
		{"a span round the end", round, entries(half+9, top, 0, 2), api.Move{From: top, To: 0}, api.OK},
		{"a span round the end, odd", round, entries(half+9, top, 0, 2, 4), api.Move{From: top, To: 0}, api.OK},
		{"a span round the end, its middle ahead of that", round, entries(half+9, top, 0), api.Move{From: top, To: top}, api.OK},
		{"a span round the end, its point", round, entries(half+9, top, 5, 5), api.Move{}, api.ErrEven},
		{"the light one at 0", []api.Load{at(3, 9), at(0, 0), at(1, 1)}, entries(2, 2), api.Move{From: 0, To: 2}, api.OK},
		{"the heavy one at the greatest value", []api.Load{at(3, 1), at(top, 90), at(1, 2)}, entries(2, 3, top), api.Move{From: 3, To: 3}, api.OK},
		{"the heavy one at the greatest value, its point", []api.Load{at(3, 1), at(top, 90), at(1, 2)}, entries(2, top), api.Move{}, api.ErrEven},
		{"several heavy ones, the first one's point", loads(0, 9, 9, 1, 0, 0, 0), entries(11, 20), api.Move{}, api.ErrEven},
		{"several heavy ones, another one's point", loads(0, 9, 9, 1, 0, 0, 0), entries(11, 30), api.Move{From: 10, To: 30}, api.OK},
		{"several light ones, the least point last", []api.Load{at(9, 0), at(8, 90), at(7, 0), at(6, 5), at(4, 0)}, entries(7, 7), api.Move{From: 4, To: 7}, api.OK},
		{"nil loads", nil, entries(1, 2, 3), api.Move{}, api.ErrEven},
		{"no loads", []api.Load{}, entries(1, 2, 3), api.Move{}, api.ErrEven},
		{"neither loads nor entries", nil, nil, api.Move{}, api.ErrEven},
		{"one load", loads(50), entries(1, 2, 3), api.Move{}, api.ErrEven},
		{"loads of nothing", loads(0, 0, 0), entries(1, 2, 3), api.Move{}, api.ErrEven},
		{"two loads, a light one only", loads(0, 9), entries(11, 12, 13), api.Move{}, api.ErrEven},
		{"a light one only", loads(0, 5, 5), entries(11, 12, 13), api.Move{}, api.ErrEven},
		{"a light one only, and others that have much", loads(7, 100, 90, 80), entries(11, 12, 13), api.Move{}, api.ErrEven},
		{"a heavy one only", loads(3, 3, 3, 3, 20, 3), entries(41, 42, 43), api.Move{}, api.ErrEven},
		{"a heavy one only, and others that have little", loads(4, 3, 3, 3, 20, 3, 4), entries(41, 42, 43), api.Move{}, api.ErrEven},
		{"neither", loads(5, 6, 7), entries(21, 22, 23), api.Move{}, api.ErrEven},
		{"neither, just at both", loads(0x100, 0x400, 0x300, 0x200, 0x100), entries(11, 12, 13), api.Move{}, api.ErrEven},
		{"just heavy, just light", loads(1000, 4999, 2001, 2000, 1999), entries(11, 12, 13), api.Move{From: 10, To: 12}, api.OK},
		{"not just heavy, just light", loads(1000, 4998, 2001, 2000, 2496), entries(11, 12, 13), api.Move{}, api.ErrEven},
		{"just heavy, not just light", loads(1200, 4801, 2000, 2000, 1999), entries(11, 12, 13), api.Move{}, api.ErrEven},
		{"one more than may be", loads(0, 50, half), entries(11, 12, 13), api.Move{}, api.ErrArg},
		{"one less than may be", loads(-1, 50, 1), entries(11, 12, 13), api.Move{}, api.ErrArg},
		{"a point twice", []api.Load{at(10, 0), at(20, 50), at(10, 0)}, entries(11, 12, 13), api.Move{}, api.ErrArg},
		{"one load that may not be, and no shelf", loads(-1), nil, api.Move{}, api.ErrArg},
		{"loads that may not be, neither heavy nor light", loads(half, half, half), nil, api.Move{}, api.ErrArg},
		{"the most there may be", loads(0, cap31, 0), entries(11, 12, 13), api.Move{From: 10, To: 12}, api.OK},
	} {
		for _, l := range turned(r.l) {
			if got, err := balance.Plan(l, r.shelf); got != r.want || err != r.err {
				t.Errorf("%s: Plan of %v, %d entries: %v, error %d; want %v, error %d", r.what, l, len(r.shelf), got, err, r.want, r.err)
			}
			plan(t, r.what, l, r.shelf)
		}
	}
}

// TestP17_2Middle: in shelves of any number of entries the one in the middle alone counts, and of that its Value.
func TestP17_2Middle(t *testing.T) {
	l := []api.Load{at(half, 0), at(1000, 7), at(200_000, 90)}
	counts := []int{api.MaxEntries - 1, api.MaxEntries, api.MaxEntries + 1, 65_535, 65_536, 65_537, 131_073}
	for n := range 70 {
		counts = append(counts, n+2)
	}
	for _, n := range counts {
		var values []uint32
		for i := range n {
			values = append(values, 1001+uint32(i))
		}
		shelf := entries(values...)
		want := api.Move{From: half, To: 1001 + uint32(n/2)}
		if got, err := balance.Plan(l, shelf); got != want || err != api.OK {
			t.Errorf("of %d entries: %v, error %d; want %v", n, got, err, want)
		}
		plan(t, "the middle one", l, shelf)
		for i := range shelf {
			if i != n/2 {
				shelf[i] = api.Entry{Value: 200_000, Record: api.Record{Values: []uint32{200_000}}}
			}
		}
		if got, err := balance.Plan(l, shelf); got != want || err != api.OK {
			t.Errorf("of %d entries, the others at the heavy one's point: %v, error %d; want %v", n, got, err, want)
		}
		shelf = entries(values...)
		shelf[n/2].Value = 200_000
		if got, err := balance.Plan(l, shelf); got != (api.Move{}) || err != api.ErrEven {
			t.Errorf("of %d entries, the middle one alone at the heavy one's point: %v, error %d; want error %d", n, got, err, api.ErrEven)
		}
		plan(t, "the middle one at the heavy one's point", l, shelf)
	}
}

// TestP17_2Fields: neither an entry's record nor whether it is gone plays a part, nor how many entries the load tells.
func TestP17_2Fields(t *testing.T) {
	l := []api.Load{at(10, 0), at(20, 5), at(30, 50)}
	for _, r := range []api.Record{{}, {Id: 30, Version: 30, Values: []uint32{30}}, {Id: math.MaxUint64, Version: math.MaxUint64}, {Values: []uint32{30, 30, 30}}} {
		for _, gone := range []bool{false, true} {
			shelf := []api.Entry{{Value: 21, Record: r, Gone: gone}, {Value: 25, Record: r, Gone: gone}, {Value: 29, Record: r, Gone: gone}}
			if got, err := balance.Plan(l, shelf); got != (api.Move{From: 10, To: 25}) || err != api.OK {
				t.Errorf("entries of the record %v, gone %v: %v, error %d; want 10, 25", r, gone, got, err)
			}
			shelf[1].Value = 30
			if got, err := balance.Plan(l, shelf); got != (api.Move{}) || err != api.ErrEven {
				t.Errorf("entries of the record %v, gone %v, at 30: %v, error %d; want error %d", r, gone, got, err, api.ErrEven)
			}
		}
	}
}

// TestEverywhere asks of strewn loads and shelves, and holds what is told against a plain reference; all that the
// chapter names was come to.
func TestEverywhere(t *testing.T) {
	sentences, heavies, lights := map[string]int{}, map[bool]int{}, map[bool]int{}
	for seed := range uint64(40_000) {
		next := roll(seed)
		l := strewn(next)
		heavy, light := ask(t, "strewn "+strconv.FormatUint(seed, 10), l)
		heavies[heavy.ok]++
		lights[light.ok]++
		sentences[plan(t, "strewn "+strconv.FormatUint(seed, 10), l, strewnShelf(next, heavy.load.Point))]++
	}
	for _, why := range []string{"may not be", "neither", "a light one only", "a heavy one only", "too few", "the heavy one's point", "a move"} {
		if sentences[why] < 500 {
			t.Errorf("%s: %d times only", why, sentences[why])
		}
	}
	if min(heavies[true], heavies[false], lights[true], lights[false]) < 4000 {
		t.Errorf("a heavy one: %v; a light one: %v", heavies, lights)
	}
}

// TestEdges: the other loads have so much that one is just at twice the mean, or at half of it, or ever so little beside
// that; it is the one of the most, or of the fewest.
func TestEdges(t *testing.T) {
	var above, even, below, under, just, cut, over int
	for seed := range uint64(600) {
		next := roll(seed)
		n := 3 + next(8<<next(8))
		l, i, rest := loads(several(n, 0)...), next(n), 0
		for j := range l {
			if j != i {
				l[j].Entries = 1000 + next(500)
				rest += l[j].Entries
			}
		}
		for d := range 5 {
			l[i].Entries = (rest+3)*2/(n-2) + 1
			sum := fill(l, i, l[i].Entries*(n-2)/2+d-2) + l[i].Entries
			heavy, _ := ask(t, "twice the mean", l)
			switch {
			case l[i].Entries*n > 2*sum:
				above++
			case l[i].Entries*n == 2*sum:
				even++
			default:
				below++
			}
			if heavy.ok != (l[i].Entries*n > 2*sum) || heavy.ok && heavy.load != l[i] {
				t.Errorf("%d entries, of %d loads of %d in all: Heavy %v", l[i].Entries, n, sum, heavy)
			}
			rest = sum - l[i].Entries
		}
		for d := range 5 {
			l[i].Entries = (rest+1)/(2*n-1) + 1
			sum := fill(l, i, l[i].Entries*(2*n-1)+d-1) + l[i].Entries
			_, light := ask(t, "half of the mean", l)
			switch {
			case l[i].Entries*512 < sum*256/n:
				under++
			case l[i].Entries*n*2 == sum:
				just++
			case l[i].Entries*n*2 < sum:
				cut++
			default:
				over++
			}
			if light.ok != (l[i].Entries*512 < sum*256/n) || light.ok && light.load != l[i] {
				t.Errorf("%d entries, of %d loads of %d in all: Light %v", l[i].Entries, n, sum, light)
			}
			rest = sum - l[i].Entries
		}
	}
	if min(above, even, below, under, just, cut, over) < 100 {
		t.Errorf("above %d, just at %d, below %d; under %d, just at %d, cut off %d, over %d", above, even, below, under, just, cut, over)
	}
}

// fill gives the loads but the i-th one more entries, one by one, until they have so many in all, and tells how many.
func fill(l []api.Load, i, rest int) int {
	has := -l[i].Entries
	for _, x := range l {
		has += x.Entries
	}
	for j := 0; has < rest; j++ {
		if j%len(l) != i {
			l[j%len(l)].Entries++
			has++
		}
	}
	return has
}

// TestWhatFollows: who moves has less than half of the mean, and goes to a value of who has more than twice of it.
func TestWhatFollows(t *testing.T) {
	moves := 0
	for seed := range uint64(20_000) {
		next := roll(seed)
		l := strewn(next)
		heavy, _ := balance.Heavy(l)
		shelf := strewnShelf(next, heavy.Point)
		m, err := balance.Plan(l, shelf)
		if err != api.OK {
			continue
		}
		moves++
		sum := 0
		for _, x := range l {
			sum += x.Entries
		}
		i := slices.IndexFunc(l, func(x api.Load) bool { return x.Point == m.From })
		if i < 0 || l[i].Entries*2*len(l) >= sum {
			t.Errorf("%v: From %d has not less than half of the mean", l, m.From)
		}
		if heavy.Entries*len(l) <= 2*sum || m.From == heavy.Point || m.To == heavy.Point {
			t.Errorf("%v: From %d To %d, where the heavy one is %v", l, m.From, m.To, heavy)
		}
		if !slices.ContainsFunc(shelf, func(e api.Entry) bool { return e.Value == m.To }) {
			t.Errorf("To %d is no value of the shelf", m.To)
		}
	}
	if moves < 1000 {
		t.Errorf("%d moves only", moves)
	}
}

// TestWhatFollowsMoves: moved so, again and again, loads get even, by halves of what the heavy one has.
func TestWhatFollowsMoves(t *testing.T) {
	shelves := map[uint32][]api.Entry{}
	for i := range 16 {
		var values []uint32
		for j := range 1 + i*i*3 {
			values = append(values, uint32(i)<<20+uint32(j)*7+1)
		}
		shelves[uint32(i+1)<<20] = entries(values...)
	}
	for round := 0; ; round++ {
		var l []api.Load
		for p, shelf := range shelves {
			l = append(l, at(p, len(shelf)))
		}
		slices.SortFunc(l, func(x, y api.Load) int { return int(x.Point) - int(y.Point) })
		heavy, light := ask(t, "moves", l)
		plan(t, "moves", l, shelves[heavy.load.Point])
		m, err := balance.Plan(l, shelves[heavy.load.Point])
		if err != api.OK {
			if heavy.ok && light.ok || round < 2 {
				t.Errorf("behind %d moves error %d: Heavy %v, Light %v", round, err, heavy, light)
			}
			return
		}
		if round > 64 {
			t.Fatal("loads do not get even")
		}
		i := slices.IndexFunc(l, func(x api.Load) bool { return x.Point > m.From })
		next := l[max(i, 0)].Point // who has what From had
		shelves[next] = append(slices.Clone(shelves[m.From]), shelves[next]...)
		delete(shelves, m.From)
		shelf := shelves[heavy.load.Point]
		cut := slices.IndexFunc(shelf, func(e api.Entry) bool { return e.Value == m.To }) + 1
		shelves[m.To], shelves[heavy.load.Point] = shelf[:cut], shelf[cut:]
	}
}

// TestR1: whatever is handed in, it answers.
func TestR1(t *testing.T) {
	for _, l := range [][]api.Load{nil, {}, {{}}, {{}, {}}, make([]api.Load, 100), loads(bad()...), slices.Repeat([]api.Load{at(top, math.MinInt)}, 3)} {
		ask(t, "whatever", l)
		for _, shelf := range [][]api.Entry{nil, {}, {{}}, {{}, {}}, make([]api.Entry, 101)} {
			plan(t, "whatever", l, shelf)
		}
	}
	l := []api.Load{at(0, 90), at(1, 0), at(2, 3)}
	plan(t, "entries of nothing, the heavy one at 0", l, make([]api.Entry, 5))
	l[0].Point = 7
	if got, err := balance.Plan(l, make([]api.Entry, 5)); got != (api.Move{From: 1}) || err != api.OK {
		t.Errorf("entries of nothing: %v, error %d; want 1, 0", got, err)
	}
}

// TestR2: the same loads and entries tell the same, whatever was asked in between.
func TestR2(t *testing.T) {
	l, shelf := loads(4, 90, 7, 3, 5), entries(11, 12, 13, 14)
	for seed := range uint64(200) {
		next := roll(seed)
		if got, err := balance.Plan(l, shelf); got != (api.Move{From: 40, To: 13}) || err != api.OK {
			t.Fatalf("Plan: %v, error %d; want 40, 13", got, err)
		}
		if heavy, light := ask(t, "again", l); heavy != one(20, 90) || light != one(40, 3) {
			t.Fatalf("Heavy %v, Light %v; want 20, 40", heavy, light)
		}
		other := strewn(next)
		balance.Heavy(other)
		balance.Light(other)
		balance.Plan(other, strewnShelf(next, 5))
	}
}

// TestR2Together: loads and entries may be asked by many at the same time.
func TestR2Together(t *testing.T) {
	l, shelf := loads(append(several(300, 8), 90, 3)...), entries(11, 12, 13, 14, 15)
	var jobs sync.WaitGroup
	for range 8 {
		jobs.Go(func() {
			for range 50 {
				if heavy, ok := balance.Heavy(l); heavy != at(3010, 90) || !ok {
					t.Errorf("at the same time: Heavy %v, %v; want 3010", heavy, ok)
				}
				if light, ok := balance.Light(l); light != at(3020, 3) || !ok {
					t.Errorf("at the same time: Light %v, %v; want 3020", light, ok)
				}
				if got, err := balance.Plan(l, shelf); got != (api.Move{From: 3020, To: 13}) || err != api.OK {
					t.Errorf("at the same time: Plan %v, error %d; want 3020, 13", got, err)
				}
			}
		})
	}
	jobs.Wait()
}

// TestR3: what is handed in is not kept: what becomes of the loads and the entries counts from then on; and what was told
// stays. (That it is not changed ask and plan hold in every test.)
func TestR3(t *testing.T) {
	l, shelf := loads(4, 90, 7, 3, 5), entries(11, 12, 13, 14)
	heavy, light := ask(t, "as handed in", l)
	move, _ := balance.Plan(l, shelf)
	l[3].Entries, l[2].Entries, l[1].Entries = 9, 1, 95
	shelf[2].Value, shelf[1].Value = 17, 18
	if heavy, light := ask(t, "changed", l); heavy != one(20, 95) || light != one(30, 1) {
		t.Errorf("changed: Heavy %v, Light %v; want 20, 30", heavy, light)
	}
	if got, err := balance.Plan(l, shelf); got != (api.Move{From: 30, To: 17}) || err != api.OK {
		t.Errorf("changed: Plan: %v, error %d; want 30, 17", got, err)
	}
	l[1].Point, shelf[2].Value = 17, 20
	if got, err := balance.Plan(l, shelf); got != (api.Move{From: 30, To: 20}) || err != api.OK {
		t.Errorf("changed again: Plan: %v, error %d; want 30, 20", got, err)
	}
	l[0].Point = 17
	refused(t, "changed to a point twice", l)
	l[0].Point = 10
	if got, err := balance.Plan(l, shelf); got != (api.Move{From: 30, To: 20}) || err != api.OK {
		t.Errorf("changed back: Plan: %v, error %d; want 30, 20", got, err)
	}
	if heavy != one(20, 90) || light != one(40, 3) || move != (api.Move{From: 40, To: 13}) {
		t.Errorf("told ahead of changes: %v, %v, %v; want 20, 40, and 40 to 13", heavy, light, move)
	}
}

// TestR4: what is told beside a false, or an error, is zero.
func TestR4(t *testing.T) {
	for seed := range uint64(5000) {
		next := roll(seed)
		l := strewn(next)
		heavy, much := balance.Heavy(l)
		light, little := balance.Light(l)
		if !much && heavy != (api.Load{}) || !little && light != (api.Load{}) {
			t.Errorf("%v: Heavy %v, %v, Light %v, %v", l, heavy, much, light, little)
		}
		if m, err := balance.Plan(l, strewnShelf(next, heavy.Point)); err != api.OK && m != (api.Move{}) {
			t.Errorf("%v: Plan: %v beside the error %d", l, m, err)
		}
	}
}
