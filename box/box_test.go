package box_test

import (
	"bytes"
	"encoding/binary"
	"math"
	"slices"
	"testing"

	"petasos/api"
	"petasos/box"
	"petasos/circle"
)

const (
	maxAttrs = 8
	top      = math.MaxUint32
	round    = 1 << 32 // how many values there are
)

var (
	whole   = api.Range{Kind: api.Any}
	nothing = api.Range{Kind: api.Nothing}
)

// good are the kinds that there are, bad some that there are not.
var (
	good = []int{1, 2, 3}
	bad  = []int{
		0, -1, -2, -3, 4, 5, 100, 255, 256, 257, 258, 259, -254, -255, -256, 1<<16 + 2, 1 << 31, -1 << 31, math.MaxInt, math.MinInt,
		1<<32 + 1, 1<<32 + 2, 1<<32 + 3, math.MinInt + 1, math.MinInt + 2, // none, that would be one, were they cut
	}
)

// edges are values at which ranges begin and end, and lie beside.
var edges = []uint32{0, 1, 2, 3, 4, 5, 6, 7, 9, 255, 256, 1<<16 - 1, 1 << 16, 1<<31 - 1, 1 << 31, 1<<31 + 1, top - 2, top - 1, top}

// strewn gives numbers from all over, the same ones each time.
func strewn(seed uint64) func() uint64 {
	x := seed
	return func() uint64 {
		x = x*6364136223846793005 + 1442695040888963407
		return x ^ x>>29
	}
}

// between is the values from lo up to hi.
func between(lo, hi uint32) api.Range { return api.Range{Kind: api.Between, Lo: lo, Hi: hi} }

// of is n ranges, all alike.
func of(n int, r api.Range) []api.Range {
	b := make([]api.Range, n)
	for i := range b {
		b[i] = r
	}
	return b
}

// in tells plainly what In should.
func in(r api.Range, v uint32) bool {
	switch {
	case r.Kind == 1:
		return true
	case r.Kind != 2:
		return false
	case r.Lo <= r.Hi:
		return r.Lo <= v && v <= r.Hi
	}
	return v >= r.Lo || v <= r.Hi
}

// packed tells plainly what Pack should.
func packed(b []api.Range) []byte {
	l := []byte{byte(len(b) % 256)}
	for _, r := range b {
		l = append(l, byte((r.Kind%256+256)%256))
		if r.Kind != 2 {
			r.Lo, r.Hi = 0, 0
		}
		l = binary.BigEndian.AppendUint32(l, r.Lo)
		l = binary.BigEndian.AppendUint32(l, r.Hi)
	}
	return l
}

// strewnRange is a range from all over, of a kind that there may be none of.
func strewnRange(next func() uint64) api.Range {
	kind := int(next()%6) - 1
	if next()%20 == 0 {
		kind = int(next())
	}
	lo, hi := uint32(next()), uint32(next())
	if next()%3 == 0 {
		lo, hi = edges[next()%uint64(len(edges))], edges[next()%uint64(len(edges))]
	}
	return api.Range{Kind: kind, Lo: lo, Hi: hi}
}

func TestP5_1Right(t *testing.T) {
	for _, r := range []struct {
		what  string
		attrs int
		b     []api.Range
		want  bool
	}{
		{"one range", 1, of(1, whole), true},
		{"one of values", 1, of(1, between(3, 9)), true},
		{"one of none", 1, of(1, nothing), true},
		{"each kind", 3, []api.Range{whole, between(3, 9), nothing}, true},
		{"round the seam", 1, of(1, between(9, 3)), true},
		{"all values", 1, of(1, between(5, 4)), true},
		{"one value", 1, of(1, between(5, 5)), true},
		{"Lo and Hi of Any", 1, []api.Range{{Kind: api.Any, Lo: 4, Hi: 9}}, true},
		{"Lo and Hi of Nothing", 1, []api.Range{{Kind: api.Nothing, Lo: 4, Hi: top}}, true},
		{"most attributes", maxAttrs, of(maxAttrs, between(1, 2)), true},

		{"no attributes, no ranges", 0, nil, false},
		{"no attributes, an empty list", 0, []api.Range{}, false},
		{"no attributes, a range", 0, of(1, whole), false},
		{"fewer than none, no ranges", -1, nil, false},
		{"fewer than none, a range", -1, of(1, whole), false},
		{"the fewest", math.MinInt, nil, false},
		{"one attribute too many", maxAttrs + 1, of(maxAttrs+1, whole), false},
		{"too many, few ranges", maxAttrs + 1, of(maxAttrs, whole), false},
		{"256", 256, of(256, whole), false},
		{"257, and a range", 257, of(1, whole), false},
		{"257 of both", 257, of(257, whole), false},
		{"the most", math.MaxInt, of(1, whole), false},

		{"no range of one", 1, nil, false},
		{"a range less", 2, of(1, whole), false},
		{"a range more", 1, of(2, whole), false},
		{"256 ranges more", 1, of(257, whole), false},
		{"a range less than most", maxAttrs, of(maxAttrs-1, whole), false},
		{"a range more than most", maxAttrs, of(maxAttrs+1, whole), false},

		{"a range that is nothing", 1, []api.Range{{}}, false},
		{"the first is none", 2, []api.Range{{Kind: 4}, whole}, false},
		{"the last is none", 2, []api.Range{whole, {Kind: 0}}, false},
		{"one between is none", 3, []api.Range{whole, {Kind: -1, Lo: 3, Hi: 4}, whole}, false},
		{"behind one of none", 2, []api.Range{nothing, {Kind: 4}}, false},
	} {
		if got := box.Right(r.attrs, r.b); got != r.want {
			t.Errorf("%s: Right(%d, %v): %v; want %v", r.what, r.attrs, r.b, got, r.want)
		}
	}
}

// TestP5_1RightEach holds each count against each, and has each kind in each place.
func TestP5_1RightEach(t *testing.T) {
	for attrs := -2; attrs <= maxAttrs+3; attrs++ {
		for n := range maxAttrs + 4 {
			want := attrs >= 1 && attrs <= 8 && n == attrs
			for _, kind := range good {
				if got := box.Right(attrs, of(n, api.Range{Kind: kind, Lo: 3, Hi: 2})); got != want {
					t.Errorf("Right(%d) of %d ranges, all of the kind %d: %v; want %v", attrs, n, kind, got, want)
				}
			}
			for place := range n {
				for _, kind := range bad {
					b := of(n, between(1, 2))
					b[place].Kind = kind
					if box.Right(attrs, b) {
						t.Errorf("Right(%d) of %d ranges, of which %d is of the kind %d", attrs, n, place, kind)
					}
				}
			}
		}
	}
}

func TestP5_1In(t *testing.T) {
	for _, r := range []struct {
		what string
		r    api.Range
		yes  []uint32
		no   []uint32
	}{
		{"a few", between(3, 6), []uint32{3, 4, 5, 6}, []uint32{0, 1, 2, 7, 8, 1 << 31, top}},
		{"one value", between(5, 5), []uint32{5}, []uint32{0, 4, 6, 1 << 31, top}},
		{"two values", between(5, 6), []uint32{5, 6}, []uint32{4, 7, 0, top}},
		{"value 0", between(0, 0), []uint32{0}, []uint32{1, top, 1 << 31}},
		{"the greatest value", between(top, top), []uint32{top}, []uint32{0, 1, top - 1, 1 << 31}},
		{"over the seam", between(top, 0), []uint32{top, 0}, []uint32{1, top - 1, 1 << 31}},
		{"round the circle", between(9, 3), []uint32{9, 10, 1 << 31, top, 0, 1, 2, 3}, []uint32{4, 5, 8}},
		{"all but one", between(6, 4), []uint32{6, 7, top, 0, 4}, []uint32{5}},
		{"all, from 5 on", between(5, 4), []uint32{5, 6, 1 << 31, top, 0, 3, 4}, nil},
		{"all, from 0 on", between(0, top), []uint32{0, 1, 1 << 31, top - 1, top}, nil},
		{"all, from 1 on", between(1, 0), []uint32{0, 1, 1 << 31, top}, nil},
		{"all, from the greatest on", between(top, top-1), []uint32{0, 1, 1 << 31, top - 1, top}, nil},
		{"all but 0", between(1, top), []uint32{1, 2, 1 << 31, top}, []uint32{0}},
		{"the lower half", between(0, 1<<31-1), []uint32{0, 1<<31 - 1}, []uint32{1 << 31, top}},
		{"the upper half", between(1<<31, top), []uint32{1 << 31, top}, []uint32{0, 1<<31 - 1}},
		{"all but the upper half's ends", between(top, 1<<31), []uint32{top, 0, 1 << 31}, []uint32{1<<31 + 1, top - 1}},

		{"Any", whole, edges, nil},
		{"Any, with a Lo and a Hi", api.Range{Kind: api.Any, Lo: 3, Hi: 6}, edges, nil},
		{"Nothing", nothing, nil, edges},
		{"Nothing, with a Lo and a Hi", api.Range{Kind: api.Nothing, Lo: 3, Hi: 6}, nil, edges},
		{"Nothing, with all", api.Range{Kind: api.Nothing, Lo: 0, Hi: top}, nil, edges},
		{"nothing named", api.Range{}, nil, edges},
	} {
		for _, v := range r.yes {
			if !box.In(r.r, v) {
				t.Errorf("%s: In(%v, %d): false", r.what, r.r, v)
			}
		}
		for _, v := range r.no {
			if box.In(r.r, v) {
				t.Errorf("%s: In(%v, %d): true", r.what, r.r, v)
			}
		}
	}
}

// TestP5_1InEach holds In against the plain one, at all edges, and strewn.
func TestP5_1InEach(t *testing.T) {
	for _, kind := range slices.Concat(good, bad) {
		for _, lo := range edges {
			for _, hi := range edges {
				for _, v := range edges {
					r := api.Range{Kind: kind, Lo: lo, Hi: hi}
					if got := box.In(r, v); got != in(r, v) {
						t.Errorf("In(%v, %d): %v", r, v, got)
					}
				}
			}
		}
	}
	next := strewn(5)
	for range 20000 {
		r := strewnRange(next)
		for _, v := range []uint32{uint32(next()), r.Lo - 1, r.Lo, r.Lo + 1, r.Hi - 1, r.Hi, r.Hi + 1} {
			if got := box.In(r, v); got != in(r, v) {
				t.Errorf("In(%v, %d): %v", r, v, got)
			}
		}
	}
}

// TestP5_1InSteps goes from Lo, step by step, up to Hi.
func TestP5_1InSteps(t *testing.T) {
	for _, lo := range []uint32{0, 1, 20, 1<<31 - 3, 1 << 31, top - 9, top - 1, top} {
		for n := range uint32(12) {
			hi := lo + n
			has := map[uint32]int{}
			for v := lo; ; v++ {
				has[v]++
				if v == hi {
					break
				}
			}
			for v := lo - 20; v != lo+40; v++ {
				if got := box.In(between(lo, hi), v); got != (has[v] > 0) {
					t.Errorf("In({%d %d}, %d): %v", lo, hi, v, got)
				}
			}
		}
	}
}

func TestP5_1Match(t *testing.T) {
	for _, r := range []struct {
		what   string
		b      []api.Range
		values []uint32
		want   bool
	}{
		{"one", of(1, between(3, 6)), []uint32{5}, true},
		{"one that is not", of(1, between(3, 6)), []uint32{7}, false},
		{"Any", of(1, whole), []uint32{top}, true},
		{"Nothing", of(1, nothing), []uint32{0}, false},
		{"two", []api.Range{between(3, 6), between(9, 1)}, []uint32{3, 0}, true},
		{"two, the first is not", []api.Range{between(3, 6), between(9, 1)}, []uint32{2, 0}, false},
		{"two, the last is not", []api.Range{between(3, 6), between(9, 1)}, []uint32{3, 2}, false},
		{"two, none is", []api.Range{between(3, 6), between(9, 1)}, []uint32{2, 2}, false},
		{"two, turned round", []api.Range{between(3, 6), between(9, 1)}, []uint32{0, 3}, false},
		{"one of them Nothing", []api.Range{whole, nothing, whole}, []uint32{1, 2, 3}, false},
		{"one of them no kind", []api.Range{whole, {Kind: 4, Hi: top}, whole}, []uint32{1, 2, 3}, false},
		{"the last no kind", []api.Range{whole, {}}, []uint32{0, 0}, false},

		{"no ranges, no values", nil, nil, true},
		{"an empty list, and nil", []api.Range{}, nil, true},
		{"nil, and an empty list", nil, []uint32{}, true},
		{"no ranges, a value", nil, []uint32{0}, false},
		{"a range, no values", of(1, whole), nil, false},
		{"a range, an empty list", of(1, whole), []uint32{}, false},
		{"fewer values", of(3, whole), []uint32{1, 2}, false},
		{"more values", of(2, whole), []uint32{1, 2, 3}, false},
		{"fewer values, of Nothing", []api.Range{whole, nothing}, []uint32{1}, false},
		{"more than MaxAttrs", of(12, whole), make([]uint32, 12), true},
		{"more than MaxAttrs, one is not", append(of(11, whole), between(1, 2)), make([]uint32, 12), false},
		{"256", of(256, between(0, 0)), make([]uint32, 256), true},
		{"256 ranges, no values", of(256, whole), nil, false},
		{"257 ranges, one value", of(257, whole), make([]uint32, 1), false},
		{"one range, 257 values", of(1, whole), make([]uint32, 257), false},
	} {
		if got := box.Match(r.b, r.values); got != r.want {
			t.Errorf("%s: Match(%v, %v): %v; want %v", r.what, r.b, r.values, got, r.want)
		}
	}
}

func TestP5_1Empty(t *testing.T) {
	for _, r := range []struct {
		what string
		b    []api.Range
		want bool
	}{
		{"no ranges", nil, false},
		{"an empty list", []api.Range{}, false},
		{"Any", of(1, whole), false},
		{"Between", of(1, between(3, 6)), false},
		{"Between, round the circle", of(1, between(6, 3)), false},
		{"Between, one value", of(1, between(6, 6)), false},
		{"Between, of nothing named", []api.Range{{Kind: api.Between}}, false},
		{"Nothing", of(1, nothing), true},
		{"Nothing, with a Lo and a Hi", []api.Range{{Kind: api.Nothing, Lo: 3, Hi: 6}}, true},
		{"the first of some", []api.Range{nothing, whole, between(1, 2)}, true},
		{"one between others", []api.Range{whole, nothing, whole}, true},
		{"the last of some", []api.Range{whole, between(1, 2), nothing}, true},
		{"all of them", of(8, nothing), true},
		{"none of many", of(300, whole), false},
		{"the last of many", append(of(300, whole), nothing), true},
		{"nothing named", []api.Range{{}}, true},
		{"a kind below", []api.Range{whole, {Kind: 0, Lo: 1, Hi: 9}}, true},
		{"a kind above", []api.Range{{Kind: 4, Lo: 1, Hi: 9}, whole}, true},
	} {
		if got := box.Empty(r.b); got != r.want {
			t.Errorf("%s: Empty(%v): %v; want %v", r.what, r.b, got, r.want)
		}
	}
	for n := range maxAttrs + 3 {
		for place := range n {
			for _, kind := range slices.Concat(good, bad) {
				b := of(n, between(9, 3))
				b[place].Kind = kind
				if got := box.Empty(b); got != (kind != 1 && kind != 2) {
					t.Errorf("Empty of %d ranges, of which %d is of the kind %d: %v", n, place, kind, got)
				}
			}
		}
	}
}

func TestP5_2Span(t *testing.T) {
	for _, r := range []struct {
		what string
		r    api.Range
		want api.Span
		some bool
	}{
		{"all, from 5 on", between(5, 4), api.Span{From: 4, To: 4}, true},
		{"a few", between(3, 6), api.Span{From: 2, To: 6}, true},
		{"one value", between(5, 5), api.Span{From: 4, To: 5}, true},
		{"round the circle", between(6, 3), api.Span{From: 5, To: 3}, true},
		{"all but one", between(6, 4), api.Span{From: 5, To: 4}, true},
		{"value 0", between(0, 0), api.Span{From: top, To: 0}, true},
		{"from 0 on", between(0, 9), api.Span{From: top, To: 9}, true},
		{"all, from 0 on", between(0, top), api.Span{From: top, To: top}, true},
		{"all, from 1 on", between(1, 0), api.Span{}, true},
		{"all, from the greatest on", between(top, top-1), api.Span{From: top - 1, To: top - 1}, true},
		{"the greatest value", between(top, top), api.Span{From: top - 1, To: top}, true},
		{"over the seam", between(top, 0), api.Span{From: top - 1, To: 0}, true},
		{"Any", whole, api.Span{From: top, To: top}, true},
		{"Any, with a Lo and a Hi", api.Range{Kind: api.Any, Lo: 3, Hi: 6}, api.Span{From: top, To: top}, true},
		{"Nothing", nothing, api.Span{}, false},
		{"Nothing, with a Lo and a Hi", api.Range{Kind: api.Nothing, Lo: 3, Hi: 6}, api.Span{}, false},
		{"nothing named", api.Range{}, api.Span{}, false},
		{"a kind below", api.Range{Lo: 3, Hi: 6}, api.Span{}, false},
		{"a kind above", api.Range{Kind: 4, Lo: 3, Hi: 6}, api.Span{}, false},
	} {
		if got, some := box.Span(r.r); got != r.want || some != r.some {
			t.Errorf("%s: Span(%v): %v, %v; want %v, %v", r.what, r.r, got, some, r.want, r.some)
		}
	}
	for _, kind := range bad {
		if got, some := box.Span(api.Range{Kind: kind, Lo: 3, Hi: 6}); got != (api.Span{}) || some {
			t.Errorf("Span of the kind %d: %v, %v", kind, got, some)
		}
	}
}

// TestP5_2SpanEach: a span has what is In, and begins with Lo.
func TestP5_2SpanEach(t *testing.T) {
	for _, lo := range edges {
		for _, hi := range edges {
			r := between(lo, hi)
			s, some := box.Span(r)
			size := (uint64(hi) + round - uint64(lo)) % round // of what is behind Lo
			if !some || circle.Size(s) != size+1 || s.From+1 != lo || s.To != hi {
				t.Errorf("Span(%v): %v, %v", r, s, some)
			}
			for _, v := range edges {
				if circle.Has(s, v) != in(r, v) {
					t.Errorf("Span(%v): %v, has %d: %v", r, s, v, circle.Has(s, v))
				}
			}
		}
	}
}

func TestP5_2Pack(t *testing.T) {
	for _, r := range []struct {
		what string
		b    []api.Range
		want []byte
	}{
		{"no ranges", nil, []byte{0}},
		{"an empty list", []api.Range{}, []byte{0}},
		{"Any", of(1, whole), []byte{1, 1, 0, 0, 0, 0, 0, 0, 0, 0}},
		{"Any, with a Lo and a Hi", []api.Range{{Kind: api.Any, Lo: 3, Hi: 6}}, []byte{1, 1, 0, 0, 0, 0, 0, 0, 0, 0}},
		{"Between", of(1, between(258, 0x04050607)), []byte{1, 2, 0, 0, 1, 2, 4, 5, 6, 7}},
		{"Between, the highest first", of(1, between(0x81828384, top)), []byte{1, 2, 0x81, 0x82, 0x83, 0x84, 255, 255, 255, 255}},
		{"Between, round the circle", of(1, between(9, 3)), []byte{1, 2, 0, 0, 0, 9, 0, 0, 0, 3}},
		{"Nothing", of(1, nothing), []byte{1, 3, 0, 0, 0, 0, 0, 0, 0, 0}},
		{"Nothing, with a Lo and a Hi", []api.Range{{Kind: api.Nothing, Lo: top, Hi: top}}, []byte{1, 3, 0, 0, 0, 0, 0, 0, 0, 0}},
		{"nothing named", []api.Range{{}}, []byte{1, 0, 0, 0, 0, 0, 0, 0, 0, 0}},
		{"a kind above", []api.Range{{Kind: 4, Lo: 1, Hi: 2}}, []byte{1, 4, 0, 0, 0, 0, 0, 0, 0, 0}},
		{"kind 255", []api.Range{{Kind: 255, Lo: 1, Hi: 2}}, []byte{1, 255, 0, 0, 0, 0, 0, 0, 0, 0}},
		{"kind 256", []api.Range{{Kind: 256, Lo: 1, Hi: 2}}, []byte{1, 0, 0, 0, 0, 0, 0, 0, 0, 0}},
		{"kind 258, which is not Between", []api.Range{{Kind: 258, Lo: 1, Hi: 2}}, []byte{1, 2, 0, 0, 0, 0, 0, 0, 0, 0}},
		{"kind -1", []api.Range{{Kind: -1, Lo: 1, Hi: 2}}, []byte{1, 255, 0, 0, 0, 0, 0, 0, 0, 0}},
		{"kind -254, which is not Between", []api.Range{{Kind: -254, Lo: 1, Hi: 2}}, []byte{1, 2, 0, 0, 0, 0, 0, 0, 0, 0}},
		{"three", []api.Range{between(1, 2), nothing, between(3, 4)}, []byte{
			3, 2, 0, 0, 0, 1, 0, 0, 0, 2, 3, 0, 0, 0, 0, 0, 0, 0, 0, 2, 0, 0, 0, 3, 0, 0, 0, 4,
		}},
	} {
		if got := box.Pack(r.b); !bytes.Equal(got, r.want) {
			t.Errorf("%s: Pack(%v): %v; want %v", r.what, r.b, got, r.want)
		}
	}
}

// TestP5_2PackMany: how many there are is told modulo 256, but all of them follow.
func TestP5_2PackMany(t *testing.T) {
	for _, n := range []int{0, 1, 7, 8, 9, 127, 128, 255, 256, 257, 511, 512, 1000, 65535, 65536, 65537} {
		b := make([]api.Range, n)
		for i := range b {
			b[i] = between(uint32(i)*3+1, uint32(i)*0x9e3779b9)
		}
		got := box.Pack(b)
		if len(got) != 1+9*n || got[0] != byte(n) {
			t.Errorf("Pack of %d ranges: %d bytes, of which the first is %d", n, len(got), got[0])
		}
		if !bytes.Equal(got, packed(b)) {
			t.Errorf("Pack of %d ranges: other bytes", n)
		}
	}
}

// TestP5_2PackEach holds Pack against the plain one, of each kind, and strewn.
func TestP5_2PackEach(t *testing.T) {
	for _, kind := range slices.Concat(good, bad) {
		for _, lo := range edges {
			for _, hi := range edges {
				b := []api.Range{{Kind: kind, Lo: lo, Hi: hi}, between(hi, lo)}
				if got := box.Pack(b); !bytes.Equal(got, packed(b)) {
					t.Errorf("Pack(%v): %v", b, got)
				}
			}
		}
	}
	next := strewn(52)
	for range 2000 {
		b := make([]api.Range, next()%12)
		for i := range b {
			b[i] = strewnRange(next)
		}
		if got := box.Pack(b); !bytes.Equal(got, packed(b)) {
			t.Errorf("Pack(%v): %v", b, got)
		}
	}
}

// TestWhatFollows: a box has just what each of its ranges has; one that is empty has nothing.
func TestWhatFollows(t *testing.T) {
	next := strewn(7)
	matched := 0
	for range 20000 {
		n := int(next() % 6)
		b, values := make([]api.Range, n), make([]uint32, n)
		want, none := true, false
		for i := range b {
			b[i] = strewnRange(next)
			values[i] = uint32(next())
			if next()%2 == 0 {
				values[i] = b[i].Hi
			}
			each := box.In(b[i], values[i])
			s, some := box.Span(b[i])
			if each != (some && circle.Has(s, values[i])) {
				t.Errorf("In(%v, %d): %v; its span %v, %v", b[i], values[i], each, s, some)
			}
			if none = none || !some; some == box.Empty(b[i:i+1]) {
				t.Errorf("Empty of %v, of which there is a span: %v", b[i], some)
			}
			want = want && each
		}
		got := box.Match(b, values)
		if got != want {
			t.Errorf("Match(%v, %v): %v; want %v", b, values, got, want)
		}
		if box.Empty(b) != none || got && none {
			t.Errorf("Empty(%v): %v; it matches %v: %v", b, box.Empty(b), values, got)
		}
		if got {
			matched++
		}
	}
	if matched < 1000 {
		t.Errorf("only %d matched", matched)
	}
}

// TestR1 asks all that is strewn: each call ends, and a second one answers the same.
func TestR1(t *testing.T) {
	next := strewn(1)
	for range 2000 {
		b := make([]api.Range, next()%20)
		for i := range b {
			b[i] = api.Range{Kind: int(next()), Lo: uint32(next()), Hi: uint32(next())}
			if next()%2 == 0 {
				b[i].Kind = b[i].Kind % 5
			}
		}
		values := make([]uint32, next()%20)
		attrs := int(next())
		if attrs%2 == 0 {
			attrs %= 20
		}
		if box.Right(attrs, b) != box.Right(attrs, b) || box.Match(b, values) != box.Match(b, values) ||
			box.Empty(b) != box.Empty(b) || !bytes.Equal(box.Pack(b), box.Pack(b)) {
			t.Errorf("%v: two answers", b)
		}
	}
}

// TestR3: what is handed in is not changed, the room behind its end counts for nothing, and what is handed out is new.
func TestR3(t *testing.T) {
	room := []api.Range{{Kind: api.Any, Lo: 3, Hi: 6}, {Kind: 9, Lo: 4, Hi: 5}, nothing, {}}
	values := []uint32{5, 6, 7}
	b := room[:1]
	first := box.Pack(b)
	for range 2 {
		if !box.Right(1, b) || box.Empty(b) || !box.Match(b, values[:1]) || box.Match(b, values) {
			t.Error("the room behind the ends counts")
		}
		if got := box.Pack(b); len(got) != 10 {
			t.Errorf("Pack: %d bytes", len(got))
		}
	}
	box.Pack(room)
	if !slices.Equal(room, []api.Range{{Kind: api.Any, Lo: 3, Hi: 6}, {Kind: 9, Lo: 4, Hi: 5}, nothing, {}}) {
		t.Errorf("the box was changed: %v", room)
	}
	if !slices.Equal(values, []uint32{5, 6, 7}) {
		t.Errorf("the values were changed: %v", values)
	}
	second := box.Pack(b)
	for i := range first[:cap(first)] {
		first[:cap(first)][i] = 77
	}
	if want := []byte{1, 1, 0, 0, 0, 0, 0, 0, 0, 0}; !bytes.Equal(second, want) || !bytes.Equal(box.Pack(b), want) {
		t.Error("what was handed out is shared")
	}
	room[0] = nothing
	if !bytes.Equal(second, []byte{1, 1, 0, 0, 0, 0, 0, 0, 0, 0}) {
		t.Error("what was handed in is kept")
	}
}
