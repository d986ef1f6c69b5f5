package record_test

import (
	"math"
	"slices"
	"strconv"
	"testing"

	"petasos/api"
	"petasos/record"
)

const (
	maxAttrs   = 8
	maxClients = 16
	round      = 1 << 32 // how many numbers a client has
)

// strewn gives numbers from all over, the same ones each time.
func strewn(seed uint64) func() uint64 {
	x := seed
	return func() uint64 {
		x = x*6364136223846793005 + 1442695040888963407
		return x ^ x>>29
	}
}

// row is n values, none like its neighbour; an empty list, not nil, of 0.
func row(n int) []uint32 {
	l := make([]uint32, n)
	for i := range l {
		l[i] = uint32(i)*0x9e3779b9 + 7
	}
	return l
}

// rec is a record.
func rec(id, version uint64, values ...uint32) api.Record {
	return api.Record{Id: id, Version: version, Values: values}
}

// entry is an entry that has a version, and is gone, or not.
func entry(version uint64, gone bool) api.Entry {
	return api.Entry{Value: 3, Record: rec(5, version, 3, 4), Gone: gone}
}

func TestP4_1Right(t *testing.T) {
	for _, r := range []struct {
		what  string
		attrs int
		r     api.Record
		want  bool
	}{
		{"one value", 1, rec(5, 1, 9), true},
		{"two values", 2, rec(5, 1, 9, 8), true},
		{"most attributes", maxAttrs, rec(5, 1, row(maxAttrs)...), true},
		{"values 0", 3, rec(0, 1, 0, 0, 0), true},
		{"the highest values", 2, rec(0, 1, math.MaxUint32, math.MaxUint32), true},

		{"no attributes, no values", 0, rec(5, 1), false},
		{"no attributes, an empty list", 0, rec(5, 1, row(0)...), false},
		{"no attributes, a value", 0, rec(5, 1, 9), false},
		{"fewer than none, no values", -1, rec(5, 1), false},
		{"fewer than none, a value", -1, rec(5, 1, 9), false},
		{"the fewest, no values", math.MinInt, rec(5, 1), false},
		{"one attribute too many", maxAttrs + 1, rec(5, 1, row(maxAttrs+1)...), false},
		{"too many, few values", maxAttrs + 1, rec(5, 1, row(maxAttrs)...), false},
		{"far too many", 100, rec(5, 1, row(100)...), false},
		{"more than there may be", math.MaxInt, rec(5, 1, 9), false},

		{"no value of one", 1, rec(5, 1), false},
		{"a value less", 2, rec(5, 1, 9), false},
		{"a value more", 1, rec(5, 1, 9, 8), false},
		{"a value less of the most", maxAttrs, rec(5, 1, row(maxAttrs-1)...), false},
		{"a value more than the most", maxAttrs, rec(5, 1, row(maxAttrs+1)...), false},

		{"id 0", 1, rec(0, 1, 9), true},
		{"the first client's last", 1, rec(round-1, 1, 9), true},
		{"the second client's first", 1, rec(round, 1, 9), true},
		{"the last client's first", 1, rec((maxClients-1)*round, 1, 9), true},
		{"the last client's last", 1, rec(maxClients*round-1, 1, 9), true},
		{"the first that is no client's", 1, rec(maxClients*round, 1, 9), false},
		{"no client's", 1, rec(1<<63, 1, 9), false},
		{"the highest id", 1, rec(math.MaxUint64, 1, 9), false},

		{"version 0", 1, rec(5, 0, 9), false},
		{"version 0 of id 0", 1, rec(0, 0, 0), false},
		{"version 2", 1, rec(5, 2, 9), true},
		{"a version of 33 bits", 1, rec(5, round, 9), true},
		{"a version of 64 bits", 1, rec(5, 1<<63, 9), true},
		{"the highest version", 1, rec(5, math.MaxUint64, 9), true},

		{"nothing", 0, api.Record{}, false},
		{"nothing, of one attribute", 1, api.Record{}, false},
	} {
		if got := record.Right(r.attrs, r.r); got != r.want {
			t.Errorf("%s: Right(%d, %v): %v; want %v", r.what, r.attrs, r.r, got, r.want)
		}
	}
}

// TestP4_1RightEach goes through all that is at an edge, each with each: all must be right, or it is not.
func TestP4_1RightEach(t *testing.T) {
	good := 0
	for attrs := -2; attrs <= maxAttrs+2; attrs++ {
		for n := range maxAttrs + 4 {
			for _, id := range []uint64{0, 1, 15*round + 7, 16*round - 1, 16 * round, math.MaxUint64} {
				for _, version := range []uint64{0, 1, 2, math.MaxUint64} {
					want := slices.Contains([]int{1, 2, 3, 4, 5, 6, 7, 8}, attrs) && n == attrs && id <= 0xfffffffff && version != 0
					if got := record.Right(attrs, rec(id, version, row(n)...)); got != want {
						t.Errorf("Right(%d) of %d values, id %#x, version %d: %v; want %v", attrs, n, id, version, got, want)
					}
					if want {
						good++
					}
				}
			}
		}
	}
	if good != 8*4*3 {
		t.Errorf("%d were right", good)
	}
}

func TestP4_1Own(t *testing.T) {
	for _, r := range []struct {
		client int
		number uint32
		want   uint64
	}{
		{1, 5, 4294967301},
		{0, 0, 0}, {0, 1, 1}, {0, 5, 5}, {0, math.MaxUint32, 4294967295},
		{1, 0, 4294967296}, {1, math.MaxUint32, 8589934591},
		{2, 0, 8589934592}, {3, 7, 12884901895},
		{15, 0, 64424509440}, {15, 1, 64424509441}, {15, math.MaxUint32, 68719476735},
		{16, 0, 0}, {16, 5, 0}, {17, math.MaxUint32, 0}, {31, 5, 0}, {32, 5, 0}, {256, 5, 0}, {1 << 31, 5, 0}, {math.MaxInt, 5, 0},
		{-1, 0, 0}, {-1, 5, 0}, {-2, 5, 0}, {-16, 5, 0}, {-1 << 31, 5, 0}, {math.MinInt, 5, 0}, {math.MinInt, math.MaxUint32, 0},
		{1 << 32, 5, 0}, {1<<32 + 1, 5, 0}, {math.MinInt + 1, 5, 0}, // none, that would be one, were they cut
	} {
		if got := record.Own(r.client, r.number); got != r.want {
			t.Errorf("Own(%d, %d): %d; want %d", r.client, r.number, got, r.want)
		}
	}
}

func TestP4_1Client(t *testing.T) {
	for _, r := range []struct {
		id   uint64
		want int
	}{
		{0, 0}, {1, 0}, {5, 0}, {1 << 31, 0}, {4294967295, 0},
		{4294967296, 1}, {4294967301, 1}, {8589934591, 1},
		{8589934592, 2}, {30064771072, 7}, {34359738367, 7}, {34359738368, 8},
		{64424509439, 14}, {64424509440, 15}, {68719476735, 15},
		{68719476736, -1}, {68719476737, -1}, {17 * round, -1}, {255 * round, -1}, {1<<63 - 1, -1},
		{1 << 63, -1}, {1<<63 + round, -1}, {0x8000000100000005, -1}, {0xffffffff00000000, -1}, {math.MaxUint64, -1},
	} {
		if got := record.Client(r.id); got != r.want {
			t.Errorf("Client(%d): %d; want %d", r.id, got, r.want)
		}
	}
	for bit := 36; bit < 64; bit++ { // above the greatest client's number
		if got := record.Client(1<<bit + 3*round + 9); got != -1 {
			t.Errorf("Client of an id that has bit %d: %d", bit, got)
		}
	}
}

// TestP4_1Whose: an id that is Own's is that client's, and no other one's.
func TestP4_1Whose(t *testing.T) {
	next := strewn(4)
	seen := map[uint64]string{}
	for client := range maxClients {
		numbers := []uint32{0, 1, 2, 15, 16, 17, 1<<31 - 1, 1 << 31, math.MaxUint32 - 1, math.MaxUint32}
		for range 100 {
			numbers = append(numbers, uint32(next()))
		}
		slices.Sort(numbers)
		for _, number := range slices.Compact(numbers) {
			id := record.Own(client, number)
			if got := record.Client(id); got != client {
				t.Errorf("Client(Own(%d, %d)): %d", client, number, got)
			}
			if uint32(id%round) != number {
				t.Errorf("Own(%d, %d): %d, of the number %d", client, number, id, id%round)
			}
			who := strconv.Itoa(client) + ", " + strconv.Itoa(int(number))
			if other, ok := seen[id]; ok {
				t.Errorf("Own(%s) is Own(%s): %d", who, other, id)
			}
			seen[id] = who
			if !record.Right(1, rec(id, 1, 0)) {
				t.Errorf("a record of the id Own(%s) is not right", who)
			}
		}
	}
}

func TestP4_2Newer(t *testing.T) {
	for _, r := range []struct {
		what string
		a, b api.Entry
		want bool
	}{
		{"above", entry(2, false), entry(1, false), true},
		{"below", entry(1, false), entry(2, false), false},
		{"alike", entry(2, false), entry(2, false), false},
		{"alike, the first gone", entry(2, true), entry(2, false), true},
		{"alike, the second gone", entry(2, false), entry(2, true), false},
		{"alike, both gone", entry(2, true), entry(2, true), false},
		{"above, the first gone", entry(2, true), entry(1, false), true},
		{"above, the second gone", entry(2, false), entry(1, true), true},
		{"above, both gone", entry(2, true), entry(1, true), true},
		{"below, the first gone", entry(1, true), entry(2, false), false},
		{"below, the second gone", entry(1, false), entry(2, true), false},
		{"below, both gone", entry(1, true), entry(2, true), false},
		{"version 0", entry(0, false), entry(0, false), false},
		{"version 0, gone", entry(0, true), entry(0, false), true},
		{"1 above 0", entry(1, false), entry(0, true), true},
		{"0 below 1", entry(0, true), entry(1, false), false},
		{"the highest above the lowest", entry(math.MaxUint64, false), entry(0, true), true},
		{"the lowest below the highest", entry(0, true), entry(math.MaxUint64, false), false},
		{"the highest alike", entry(math.MaxUint64, true), entry(math.MaxUint64, false), true},
		{"above by 2^63", entry(1<<63, false), entry(1<<63-1, true), true},
		{"below by 2^63", entry(1<<63-1, true), entry(1<<63, false), false},
		{"above, of more than 32 bits", entry(round, false), entry(5, false), true},
		{"below, of more than 32 bits", entry(5, true), entry(round, false), false},
		{"nothing, both", api.Entry{}, api.Entry{}, false},
		{"nothing, the first gone", api.Entry{Gone: true}, api.Entry{}, true},
	} {
		if got := record.Newer(r.a, r.b); got != r.want {
			t.Errorf("%s: Newer(%v, %v): %v; want %v", r.what, r.a, r.b, got, r.want)
		}
	}
}

// TestP4_2NewerAlone: Version and Gone alone count, whatever else the two have.
func TestP4_2NewerAlone(t *testing.T) {
	others := []api.Entry{
		{},
		{Value: 9, Record: rec(5, 0, 9)},
		{Value: math.MaxUint32, Record: rec(math.MaxUint64, 0, 9, 9, 9)},
		{Value: 1, Record: rec(16*round, 0, row(20)...)},
	}
	for _, r := range []struct {
		a, b         uint64
		aGone, bGone bool
		want         bool
	}{
		{7, 6, false, false, true}, {7, 6, false, true, true}, {6, 7, true, false, false}, {6, 7, false, false, false},
		{7, 7, true, false, true}, {7, 7, false, true, false}, {7, 7, false, false, false}, {7, 7, true, true, false},
	} {
		for _, a := range others {
			for _, b := range others {
				a.Record.Version, a.Gone = r.a, r.aGone
				b.Record.Version, b.Gone = r.b, r.bGone
				if got := record.Newer(a, b); got != r.want {
					t.Errorf("Newer(%v, %v): %v; want %v", a, b, got, r.want)
				}
			}
		}
	}
}

func TestP4_2Same(t *testing.T) {
	for _, r := range []struct {
		what string
		a, b api.Record
		want bool
	}{
		{"alike", rec(5, 2, 7, 8), rec(5, 2, 7, 8), true},
		{"nothing", api.Record{}, api.Record{}, true},
		{"no values", rec(5, 2), rec(5, 2), true},
		{"nil and an empty list", rec(5, 2), rec(5, 2, row(0)...), true},
		{"an empty list and nil", rec(5, 2, row(0)...), rec(5, 2), true},
		{"many values", rec(5, 2, row(50)...), rec(5, 2, row(50)...), true},
		{"not right, but alike", rec(math.MaxUint64, 0), rec(math.MaxUint64, 0), true},

		{"another id", rec(5, 2, 7, 8), rec(6, 2, 7, 8), false},
		{"another client's", rec(5, 2, 7), rec(round+5, 2, 7), false},
		{"an id of the highest bit", rec(5, 2, 7), rec(1<<63+5, 2, 7), false},
		{"another version", rec(5, 2, 7, 8), rec(5, 3, 7, 8), false},
		{"a version of more than 32 bits", rec(5, 2, 7), rec(5, round+2, 7), false},
		{"a version of the highest bit", rec(5, 2, 7), rec(5, 1<<63+2, 7), false},
		{"id and version the other way", rec(5, 2, 7), rec(2, 5, 7), false},
		{"the first value", rec(5, 2, 7, 8), rec(5, 2, 6, 8), false},
		{"the last value", rec(5, 2, 7, 8), rec(5, 2, 7, 9), false},
		{"the only value", rec(5, 2, 0), rec(5, 2, math.MaxUint32), false},
		{"values the other way", rec(5, 2, 7, 8), rec(5, 2, 8, 7), false},
		{"a value more", rec(5, 2, 7, 8), rec(5, 2, 7, 8, 9), false},
		{"a value more, 0", rec(5, 2, 7, 8), rec(5, 2, 7, 8, 0), false},
		{"a value less", rec(5, 2, 7, 8), rec(5, 2, 7), false},
		{"a value and none", rec(5, 2, 0), rec(5, 2), false},
		{"a value and nothing", rec(0, 0, 0), api.Record{}, false},
	} {
		if got := record.Same(r.a, r.b); got != r.want {
			t.Errorf("%s: Same(%v, %v): %v; want %v", r.what, r.a, r.b, got, r.want)
		}
		if got := record.Same(r.b, r.a); got != r.want {
			t.Errorf("%s: Same(%v, %v): %v; want %v", r.what, r.b, r.a, got, r.want)
		}
	}
}

// TestP4_2SameEach turns each bit of what a record has: each counts.
func TestP4_2SameEach(t *testing.T) {
	mine := rec(0x123456789abcdef0, 0x0fedcba987654321, row(maxAttrs)...)
	for bit := range 64 {
		his := rec(mine.Id^1<<bit, mine.Version, row(maxAttrs)...)
		if record.Same(mine, his) {
			t.Errorf("the same, though bit %d of Id is not", bit)
		}
		his = rec(mine.Id, mine.Version^1<<bit, row(maxAttrs)...)
		if record.Same(mine, his) {
			t.Errorf("the same, though bit %d of Version is not", bit)
		}
	}
	for i := range maxAttrs {
		for bit := range 32 {
			his := rec(mine.Id, mine.Version, row(maxAttrs)...)
			his.Values[i] ^= 1 << bit
			if record.Same(mine, his) {
				t.Errorf("the same, though bit %d of the value %d is not", bit, i)
			}
		}
	}
	if !record.Same(mine, rec(mine.Id, mine.Version, row(maxAttrs)...)) || !record.Same(mine, mine) {
		t.Error("not the same, though all bits are")
	}
}

// TestWhatFollows: of two entries of one id one is newer, or both are of one version; and no two are each newer.
func TestWhatFollows(t *testing.T) {
	versions := []uint64{0, 1, 2, round - 1, round, round + 1, 1<<63 - 1, 1 << 63, math.MaxUint64 - 1, math.MaxUint64}
	next := strewn(9)
	for range 30 {
		versions = append(versions, next())
	}
	var l []api.Entry
	for _, version := range versions {
		l = append(l, entry(version, false), entry(version, true))
	}
	for _, a := range l {
		for _, b := range l {
			one, other := record.Newer(a, b), record.Newer(b, a)
			if one && other {
				t.Errorf("each newer: %v and %v", a, b)
			}
			if !one && !other && a.Record.Version != b.Record.Version {
				t.Errorf("none newer: %v and %v", a, b)
			}
			if one == other != (a.Record.Version == b.Record.Version && a.Gone == b.Gone) {
				t.Errorf("%v and %v: %v, %v", a, b, one, other)
			}
			for _, c := range l {
				if one && record.Newer(b, c) && !record.Newer(a, c) {
					t.Errorf("%v is newer than %v, that than %v, but the first not than the last", a, b, c)
				}
			}
		}
	}
}

// TestR1 asks all that is strewn: each call ends, and a second one answers the same.
func TestR1(t *testing.T) {
	for seed := range uint64(200) {
		next := strewn(seed)
		a := api.Entry{Value: uint32(next()), Record: rec(next(), next(), row(int(next()%20))...), Gone: next()%2 == 0}
		b := api.Entry{Value: uint32(next()), Record: rec(next(), next(), row(int(next()%20))...), Gone: next()%2 == 0}
		attrs, client, number := int(next()), int(next()), uint32(next())
		if seed%2 == 0 {
			attrs, client = attrs%20, client%40
		}
		if record.Right(attrs, a.Record) != record.Right(attrs, a.Record) || record.Newer(a, b) != record.Newer(a, b) ||
			record.Same(a.Record, b.Record) != record.Same(a.Record, b.Record) || record.Client(a.Record.Id) != record.Client(a.Record.Id) {
			t.Errorf("the row %d: two answers", seed)
		}
		want := uint64(0)
		if client >= 0 && client < maxClients {
			want = uint64(client)*round + uint64(number)
		}
		if got := record.Own(client, number); got != want {
			t.Errorf("Own(%d, %d): %d; want %d", client, number, got, want)
		}
		if got := record.Client(a.Record.Id); a.Record.Id/round < maxClients && got != int(a.Record.Id/round) || a.Record.Id/round >= maxClients && got != -1 {
			t.Errorf("Client(%d): %d", a.Record.Id, got)
		}
	}
}

// TestR3: what is handed in is not changed, and the room behind a list's end counts for nothing.
func TestR3(t *testing.T) {
	one, other := []uint32{7, 8, 9, 10}, []uint32{7, 8, 11, 12, 13}
	a, b := rec(5, 2, one[:2]...), rec(5, 2, other[:2]...)
	ea, eb := api.Entry{Value: 7, Record: a}, api.Entry{Value: 7, Record: b, Gone: true}
	for range 2 {
		if !record.Same(a, b) || !record.Right(2, a) || record.Right(4, a) || record.Newer(ea, eb) || !record.Newer(eb, ea) {
			t.Error("the room behind the ends counts")
		}
	}
	if !slices.Equal(one, []uint32{7, 8, 9, 10}) || !slices.Equal(other, []uint32{7, 8, 11, 12, 13}) {
		t.Errorf("what was handed in was changed: %v, %v", one, other)
	}
	other[1] = 9
	if record.Same(a, b) {
		t.Error("the same, though a value was changed since")
	}
}
