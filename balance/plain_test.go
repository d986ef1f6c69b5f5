package balance_test

import (
	"cmp"
	"math"
	"math/big"
	"slices"
	"testing"

	"petasos/api"
	"petasos/balance"
)

const (
	half  = 1 << 31
	top   = math.MaxUint32
	cap31 = math.MaxInt32
)

// told is what Heavy or Light tells.
type told struct {
	load api.Load
	ok   bool
}

// none is that there is none.
var none told

// one is that there is this one.
func one(point uint32, entries int) told { return told{api.Load{Point: point, Entries: entries}, true} }

// plainMayBe is whether loads may be so: put in order by their points, each has another one than that ahead of it.
func plainMayBe(l []api.Load) bool {
	l = slices.SortedFunc(slices.Values(l), func(x, y api.Load) int { return cmp.Compare(x.Point, y.Point) })
	for i, x := range l {
		if x.Entries < 0 || x.Entries > cap31 || i > 0 && l[i-1].Point == x.Point {
			return false
		}
	}
	return true
}

// plainMean is the mean of loads that may be so, in parts of 256, without rest, in numbers of any length.
func plainMean(l []api.Load) *big.Int {
	sum := new(big.Int)
	for _, x := range l {
		sum.Add(sum, big.NewInt(int64(x.Entries)))
	}
	sum.Mul(sum, big.NewInt(256))
	return sum.Div(sum, big.NewInt(int64(len(l))))
}

// times is so many times the entries of a load.
func times(n int64, x api.Load) *big.Int {
	return new(big.Int).Mul(big.NewInt(n), big.NewInt(int64(x.Entries)))
}

// plainHeavy is the chapter's Heavy: loads are put in order by their points, and those of the most entries first.
func plainHeavy(l []api.Load) told {
	if len(l) == 0 || !plainMayBe(l) {
		return none
	}
	l = slices.Clone(l)
	slices.SortFunc(l, func(x, y api.Load) int { return cmp.Compare(x.Point, y.Point) })
	slices.SortStableFunc(l, func(x, y api.Load) int { return cmp.Compare(y.Entries, x.Entries) })
	twice := new(big.Int).Mul(big.NewInt(2), plainMean(l))
	if times(256, l[0]).Cmp(twice) > 0 {
		return told{l[0], true}
	}
	return none
}

// plainLight is the chapter's Light, likewise.
func plainLight(l []api.Load) told {
	if len(l) == 0 || !plainMayBe(l) {
		return none
	}
	l = slices.Clone(l)
	slices.SortFunc(l, func(x, y api.Load) int { return cmp.Compare(x.Point, y.Point) })
	slices.SortStableFunc(l, func(x, y api.Load) int { return cmp.Compare(x.Entries, y.Entries) })
	if times(512, l[0]).Cmp(plainMean(l)) < 0 {
		return told{l[0], true}
	}
	return none
}

// plainPlan is the chapter's Plan, and which of its sentences it is.
func plainPlan(l []api.Load, shelf []api.Entry) (api.Move, api.Errno, string) {
	if !plainMayBe(l) {
		return api.Move{}, api.ErrArg, "may not be"
	}
	heavy, light := plainHeavy(l), plainLight(l)
	switch {
	case !heavy.ok && !light.ok:
		return api.Move{}, api.ErrEven, "neither"
	case !heavy.ok:
		return api.Move{}, api.ErrEven, "a light one only"
	case !light.ok:
		return api.Move{}, api.ErrEven, "a heavy one only"
	case len(shelf) == 0 || len(shelf) == 1:
		return api.Move{}, api.ErrEven, "too few"
	}
	rest := shelf
	for left := len(shelf); left >= 2; left -= 2 {
		rest = rest[1:]
	}
	if rest[0].Value == heavy.load.Point {
		return api.Move{}, api.ErrEven, "the heavy one's point"
	}
	return api.Move{From: light.load.Point, To: rest[0].Value}, api.OK, "a move"
}

// ask asks for the heavy and the light one, of a list with room behind its end, and holds what is told, and the list,
// against what should be.
func ask(t *testing.T, what string, l []api.Load) (heavy, light told) {
	t.Helper()
	all := roomy(l)
	given := all[:len(l)]
	if heavy.load, heavy.ok = balance.Heavy(given); heavy != plainHeavy(l) {
		t.Errorf("%s: Heavy of %d loads %v: %v; want %v", what, len(l), few(l), heavy, plainHeavy(l))
	}
	if light.load, light.ok = balance.Light(given); light != plainLight(l) {
		t.Errorf("%s: Light of %d loads %v: %v; want %v", what, len(l), few(l), light, plainLight(l))
	}
	if !slices.Equal(all, roomy(l)) {
		t.Errorf("%s: %d loads %v, or the room behind them, were written into", what, len(l), few(l))
	}
	return heavy, light
}

// plan asks for a move, by lists with room behind their ends, and holds what is told, and the lists, against what
// should be; it tells which sentence of the chapter's that was.
func plan(t *testing.T, what string, l []api.Load, shelf []api.Entry) string {
	t.Helper()
	all, entries := roomy(l), spread(shelf)
	want, err, why := plainPlan(l, shelf)
	if got, e := balance.Plan(all[:len(l)], entries[:len(shelf)]); got != want || e != err {
		t.Errorf("%s: Plan of %d loads %v, %d entries: %v, error %d; want %v, error %d (%s)", what, len(l), few(l), len(shelf), got, e, want, err, why)
	}
	if !slices.Equal(all, roomy(l)) {
		t.Errorf("%s: %d loads %v, or the room behind them, were written into", what, len(l), few(l))
	}
	if !slices.EqualFunc(entries, spread(shelf), sameEntry) {
		t.Errorf("%s: %d entries, or the room behind them, were written into", what, len(shelf))
	}
	return why
}

// few is the first ones.
func few(l []api.Load) []api.Load { return l[:min(len(l), 8)] }

// roomy is a copy of loads, and behind their end what would turn any answer.
func roomy(l []api.Load) []api.Load {
	return append(slices.Clone(l), api.Load{Point: 0, Entries: -1}, api.Load{Point: 0, Entries: cap31}, api.Load{Point: top, Entries: math.MaxInt}, api.Load{})
}

// spread is a copy of entries whose values have room behind their ends, and behind their end others.
func spread(l []api.Entry) []api.Entry {
	var out []api.Entry
	for _, e := range append(slices.Clone(l), entries(77, 78, 79, top)...) {
		e.Record.Values = append(slices.Clone(e.Record.Values), 5, e.Value, 6)[:len(e.Record.Values)]
		out = append(out, e)
	}
	return out
}

// sameEntry holds all of two entries against each other, with the room behind their values.
func sameEntry(a, b api.Entry) bool {
	x, y := a.Record.Values, b.Record.Values
	return a.Value == b.Value && a.Gone == b.Gone && a.Record.Id == b.Record.Id && a.Record.Version == b.Record.Version &&
		len(x) == len(y) && slices.Equal(x[:len(x)+3], y[:len(y)+3])
}

// loads are such of so many entries, at rising points: 10, 20, ..
func loads(entries ...int) []api.Load {
	var l []api.Load
	for i, n := range entries {
		l = append(l, api.Load{Point: uint32(i+1) * 10, Entries: n})
	}
	return l
}

// at is a load.
func at(point uint32, entries int) api.Load { return api.Load{Point: point, Entries: entries} }

// several is n times the same.
func several(n, entries int) []int { return slices.Repeat([]int{entries}, n) }

// entries are such of these values; their records have other ones, and some are gone.
func entries(values ...uint32) []api.Entry {
	var l []api.Entry
	for i, v := range values {
		r := api.Record{Id: uint64(i)<<32 + 5, Version: uint64(i + 1), Values: []uint32{v + 1, ^v, v - 1}}
		l = append(l, api.Entry{Value: v, Record: r, Gone: i%3 == 1})
	}
	return l
}

// turned are loads in each order to which turns bring them, and each of these the other way round.
func turned(l []api.Load) [][]api.Load {
	out := [][]api.Load{slices.Clone(l)}
	for i := range l {
		turn := slices.Concat(l[i:], l[:i])
		back := slices.Clone(turn)
		slices.Reverse(back)
		out = append(out, turn, back)
	}
	return out
}

// orders are all orders of loads.
func orders(l []api.Load) [][]api.Load {
	if len(l) == 0 {
		return [][]api.Load{nil}
	}
	var out [][]api.Load
	for _, o := range orders(l[1:]) {
		for i := range len(l) {
			out = append(out, slices.Insert(slices.Clone(o), i, l[0]))
		}
	}
	return out
}

// bad are numbers of entries that no load may have.
func bad() []int {
	return []int{-1, -2, -255, -256, -257, -cap31, math.MinInt32, math.MinInt32 - 1, -1 << 32, -1<<32 + 9, math.MinInt + 9, math.MinInt + 1, math.MinInt, half,
		half + 1, half + 256, top - 1, top, 1 << 32, 1<<32 + 1, 1<<32 + 9, 1 << 40, 1 << 55, 1<<56 + 3, math.MaxInt - 1, math.MaxInt}
}

// places are where a point may stand, so that something might go wrong.
func places() []uint32 {
	return []uint32{0, 1, 10, 255, 256, 1 << 16, half - 1, half, half + 1, top - 500, top - 1, top}
}

// roll makes numbers one after the other, alike for the same seed.
func roll(seed uint64) func(n int) int {
	seed ^= 0x9e3779b97f4a7c15
	return func(n int) int {
		seed = seed*6364136223846793005 + 1442695040888963407
		return int((seed >> 33) % uint64(n))
	}
}

// strewn are loads of up to 70 points, close together or not; most have about as much, one of them so much or so little
// that it is close to an edge; and some may not be so.
func strewn(next func(int) int) []api.Load {
	var l []api.Load
	n, wide, base := next(70), 1+next(cap31)>>next(31), places()[next(len(places()))]
	sum := 0
	for i := range n {
		x := api.Load{Point: base + uint32(i*(1+next(1<<24))), Entries: wide/2 + next(wide)/2}
		if next(3) == 0 {
			x.Entries = wide / 2
		}
		l = append(l, x)
		sum += x.Entries
	}
	if n > 0 && next(4) > 0 { // more than twice the mean, or not
		i := next(n)
		l[i].Entries = (sum-l[i].Entries)*2/max(1, n-2) + next(5) - 2
	}
	if n > 1 && next(4) > 0 { // less than half of it, or not
		i := next(n)
		l[i].Entries = (sum-l[i].Entries)/(2*n-1) + next(3) - 1
	}
	for i := range l {
		l[i].Entries = min(max(l[i].Entries, 0), cap31)
		if next(1000) == 0 {
			l[i].Entries = bad()[next(len(bad()))]
		}
		if next(1000) == 0 {
			l[i].Point = l[next(n)].Point
		}
	}
	for i := range l {
		j := next(i + 1)
		l[i], l[j] = l[j], l[i]
	}
	return l
}

// strewnShelf are entries of a node at p, in whatever order.
func strewnShelf(next func(int) int, p uint32) []api.Entry {
	var values []uint32
	for range next(3) * next(12) {
		values = append(values, [...]uint32{p, p - uint32(next(3)), uint32(next(half))<<1 | uint32(next(2)), places()[next(len(places()))]}[next(4)])
	}
	return entries(values...)
}
