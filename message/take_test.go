package message_test

import (
	"bytes"
	"encoding/binary"
	"math"
	"slices"
	"testing"

	"petasos/api"
	"petasos/message"
)

// refuses wants that b is refused, with nothing beside the error.
func refuses(t *testing.T, what string, attrs int, b []byte, want api.Errno) {
	t.Helper()
	m, err := message.Take(attrs, b)
	if err != want || !same(m, api.Message{}) {
		t.Errorf("%s: Take(%d) of %d bytes: %v, %v; want %v", what, attrs, len(b), m, err, want)
	}
}

func TestP6_2TakeShort(t *testing.T) {
	refuses(t, "nothing", 1, nil, api.ErrShort)
	refuses(t, "an empty list", 8, []byte{}, api.ErrShort)
	for n := range 9 { // whatever they are
		for first := range 256 {
			b := bytes.Repeat([]byte{byte(first)}, n)
			refuses(t, "fewer than nine", 2, b, api.ErrShort)
		}
	}
	for _, kind := range kinds {
		for attrs := 1; attrs <= maxAttrs; attrs++ {
			b := packed(right(kind, attrs))
			for n := range b {
				refuses(t, "cut", attrs, b[:n], api.ErrShort)
				refuses(t, "cut, without room behind", attrs, bytes.Clone(b[:n]), api.ErrShort)
			}
		}
	}
}

// TestP6_2TakeAttrs: attributes that may not be are told ahead of all else.
func TestP6_2TakeAttrs(t *testing.T) {
	for _, attrs := range []int{math.MinInt, -256, -1, 0, 9, 10, 255, 256, 257, 1<<32 + 2, math.MaxInt} {
		for _, b := range [][]byte{nil, {1}, make([]byte, 9), packed(right(api.Ack, 2)), packed(right(api.Store, 9)), packed(right(api.Ask, 9)),
			packed(api.Message{Kind: api.Answer, Op: 1}), bytes.Repeat([]byte{255}, 100)} {
			refuses(t, "attrs", attrs, b, api.ErrArg)
		}
	}
	for _, kind := range kinds { // of other attributes the bytes are too few, or too many
		for n := 1; n <= maxAttrs; n++ {
			m := right(kind, n)
			m.Hub = 0
			if slices.Contains(entries, kind) {
				move(&m, 5)
			}
			b := packed(m)
			for attrs := 1; attrs <= maxAttrs; attrs++ {
				switch {
				case attrs == n:
					if got, err := message.Take(attrs, b); err != api.OK || !same(got, m) {
						t.Errorf("Take(%d) of the kind %d: %v, %v", attrs, kind, got, err)
					}
				case attrs > n && kind != api.Ask:
					refuses(t, "of fewer", attrs, b, api.ErrShort)
				default: // an Ask has all the ranges that it tells of
					refuses(t, "of others", attrs, b, api.ErrForm)
				}
			}
		}
	}
}

func TestP6_2TakeKind(t *testing.T) {
	for first := range 256 {
		if first >= 1 && first <= 6 {
			continue
		}
		for _, like := range kinds {
			b := packed(right(like, 2))
			b[0] = byte(first)
			refuses(t, "no kind", 2, b, api.ErrForm)
			refuses(t, "no kind, nine bytes", 2, b[:9], api.ErrForm)
			refuses(t, "no kind, ten bytes", 2, b[:10], api.ErrForm)
			refuses(t, "no kind, eight bytes", 2, b[:8], api.ErrShort)
		}
		refuses(t, "no kind, zeros", 1, append([]byte{byte(first)}, make([]byte, 8)...), api.ErrForm)
	}
}

func TestP6_2TakeBehind(t *testing.T) {
	for _, kind := range kinds {
		for attrs := 1; attrs <= maxAttrs; attrs++ {
			b := packed(right(kind, attrs))
			for _, more := range [][]byte{{0}, {1}, {255}, {0, 0}, make([]byte, 4), make([]byte, 9), make([]byte, 16+4*attrs), b, make([]byte, 1<<16)} {
				refuses(t, "more behind", attrs, slices.Concat(b, more), api.ErrForm)
			}
		}
	}
}

// TestP6_2TakeNone gives bytes that are as long as they should be, and that no message is packed as.
func TestP6_2TakeNone(t *testing.T) {
	const attrs = 2
	end := 9 + 17 + 4*attrs // of an entry
	for _, r := range []struct {
		what  string
		kinds []int
		at    int
		write []byte
	}{
		{"hub of attrs", all, 1, []byte{attrs}},
		{"hub of MaxAttrs", all, 1, []byte{maxAttrs}},
		{"hub 255", all, 1, []byte{255}},
		{"client of MaxClients", all, 2, []byte{maxClients}},
		{"client 255", all, 2, []byte{255}},
		{"op 0", all, 3, []byte{0, 0}},
		{"op above MaxOps", all, 3, []byte{1, 0xf5}},
		{"op 65,535", all, 3, []byte{255, 255}},
		{"a point", without(all, points), 5, []byte{0, 0, 0, 1}},
		{"another point", without(all, points), 5, []byte{1, 0, 0, 0}},
		{"gone 2", entries, 9, []byte{2}},
		{"gone 3", entries, 9, []byte{3}},
		{"gone 255", entries, 9, []byte{255}},
		{"an id of no client", entries, 10, []byte{0, 0, 0, 16}},
		{"the greatest id", entries, 10, bytes.Repeat([]byte{255}, 8)},
		{"version 0", entries, 18, make([]byte, 8)},
		{"a turn above", owners, end + 4, []byte{128, 0, 0, 0}},
		{"the greatest number as turn", owners, end + 4, []byte{255, 255, 255, 255}},
		{"hops above MaxHops", []int{api.Store}, end, []byte{101}},
		{"hops 255", []int{api.Store}, end, []byte{255}},
		{"hops above MaxHops", asks, 9, []byte{101}},
		{"hops 255", asks, 9, []byte{255}},
		{"a range of no kind", asks, 19, make([]byte, 9)},
		{"a range of kind 4", asks, 19, append([]byte{4}, make([]byte, 8)...)},
		{"a range of kind 255", asks, 19, append([]byte{255}, make([]byte, 8)...)},
		{"Any with a Lo", asks, 19, []byte{1, 0, 0, 0, 1, 0, 0, 0, 0}},
		{"Any with a Hi", asks, 19, []byte{1, 0, 0, 0, 0, 0, 0, 0, 1}},
		{"Nothing with a Lo", asks, 28, []byte{3, 1, 0, 0, 0, 0, 0, 0, 0}},
		{"Nothing with a Hi", asks, 28, []byte{3, 0, 0, 0, 0, 1, 0, 0, 0}},
		{"the first of no client", answers, 19, []byte{0, 0, 0, 16}},
		{"the last of no client", answers, 19 + 48, []byte{1}},
		{"the first of version 0", answers, 27, make([]byte, 8)},
		{"the last of version 0", answers, 27 + 48, make([]byte, 8)},
	} {
		for _, kind := range r.kinds {
			b := packed(right(kind, attrs))
			if _, err := message.Take(attrs, b); err != api.OK {
				t.Errorf("Take of the kind %d: %v", kind, err)
			}
			copy(b[r.at:], r.write)
			refuses(t, r.what, attrs, b, api.ErrForm)
			refuses(t, r.what+", and a byte less", attrs, b[:len(b)-1], api.ErrShort)
			refuses(t, r.what+", and a byte more", attrs, append(b, 0), api.ErrForm)
		}
	}
}

// TestP6_2TakeCounts: how many ranges and records there are the bytes tell.
func TestP6_2TakeCounts(t *testing.T) {
	for attrs := 1; attrs <= maxAttrs; attrs++ {
		head := packed(right(api.Ask, attrs))[:18]
		for n := range 256 {
			b := slices.Concat(head, []byte{byte(n)}, bytes.Repeat([]byte{1, 0, 0, 0, 0, 0, 0, 0, 0}, n))
			got, err := message.Take(attrs, b)
			if n == attrs && (err != api.OK || len(got.Box) != n) || n != attrs && err != api.ErrForm {
				t.Errorf("Take(%d) of %d ranges: %v, %v", attrs, n, got, err)
			}
			refuses(t, "ranges, and a byte more", attrs, append(b, 0), api.ErrForm)
			if n > 0 {
				refuses(t, "ranges, and a byte less", attrs, b[:len(b)-1], api.ErrShort)
				refuses(t, "a range less", attrs, b[:len(b)-9], api.ErrShort)
				refuses(t, "no ranges", attrs, b[:19], api.ErrShort)
			}
		}
	}
	for _, attrs := range []int{1, 3, maxAttrs} {
		for _, n := range []int{0, 1, 2, 255, 256, 257, 9999, 10000, 10001, 10002, 20000, 65535} {
			b := packed(api.Message{Kind: api.Answer, Op: 1, Records: recs(attrs, n)})
			got, err := message.Take(attrs, b)
			if n <= maxRecords && (err != api.OK || len(got.Records) != n) || n > maxRecords && err != api.ErrForm {
				t.Errorf("Take(%d) of %d records: %d, %v", attrs, n, len(got.Records), err)
			}
			refuses(t, "records, and a byte more", attrs, append(b, 0), api.ErrForm)
			if n > 0 {
				refuses(t, "records, and a byte less", attrs, b[:len(b)-1], api.ErrShort)
				refuses(t, "a record less", attrs, b[:len(b)-16-4*attrs], api.ErrShort)
				refuses(t, "no records", attrs, b[:19], api.ErrShort)
			}
		}
	}
}

// TestP6_2TakeStrewn: bytes that are turned here and there are refused as the
// plain one tells, and what is taken is packed as them.
func TestP6_2TakeStrewn(t *testing.T) {
	next := strewn(62)
	seen := map[api.Errno]int{}
	for range 60000 {
		attrs := int(next()%maxAttrs) + 1
		b := packed(strewnRight(next, attrs))
		for range next() % 3 {
			if n := len(b); n > 0 {
				b[next()%uint64(n)] ^= byte(1) << (next() % 8)
			}
			switch next() % 9 {
			case 0:
				b = b[:next()%uint64(len(b)+1)]
			case 1:
				b = append(b, byte(next()))
			case 2:
				attrs = int(next()%(maxAttrs+3)) - 1
			case 3:
				if len(b) > 0 {
					b[0] = byte(next() % 8)
				}
			}
		}
		want := refused(attrs, b)
		seen[want]++
		if want != api.OK {
			refuses(t, "strewn", attrs, b, want)
			continue
		}
		takesAndPacks(t, attrs, b)
	}
	for _, e := range []api.Errno{api.OK, api.ErrArg, api.ErrShort, api.ErrForm} {
		if seen[e] < 1000 {
			t.Errorf("only %d were refused with %v", seen[e], e)
		}
	}
}

// takesAndPacks takes what some message is packed as, and packs it.
func takesAndPacks(t *testing.T, attrs int, b []byte) {
	t.Helper()
	m, err := message.Take(attrs, b)
	if err != api.OK || !message.Right(attrs, m) {
		t.Errorf("Take(%d, %v): %v, %v", attrs, b, m, err)
		return
	}
	if again, err := message.Pack(attrs, m); err != api.OK || !bytes.Equal(again, b) {
		t.Errorf("Pack(%d) of Take of %v: %v, %v", attrs, b, again, err)
	}
}

// TestP6_2TakeEach has each byte of a message of each kind be each one.
func TestP6_2TakeEach(t *testing.T) {
	for _, kind := range kinds {
		whole := packed(right(kind, 2))
		for i := range whole {
			for v := range 256 {
				b := bytes.Clone(whole)
				b[i] = byte(v)
				if want := refused(2, b); want != api.OK {
					refuses(t, "a byte turned", 2, b, want)
				} else {
					takesAndPacks(t, 2, b)
				}
			}
		}
	}
}

// TestR1Take takes bytes from all over: each call ends, and a second one answers the same.
func TestR1Take(t *testing.T) {
	next := strewn(16)
	for range 20000 {
		b := make([]byte, next()%120)
		for i := range b {
			b[i] = byte(next() >> (next() % 8))
		}
		if len(b) > 0 && next()%4 > 0 {
			b[0] = byte(next()%6) + 1
		}
		attrs := int(next()%(maxAttrs+2)) - 1
		m, err := message.Take(attrs, b)
		again, errAgain := message.Take(attrs, b)
		if err != refused(attrs, b) || err != errAgain || !same(m, again) {
			t.Errorf("Take(%d, %v): %v, %v; want %v", attrs, b, err, errAgain, refused(attrs, b))
		}
	}
}

// TestR3Take: what is handed in is not changed and not kept, the room behind its end counts for nothing, and what is
// handed out is new, each list of it another one.
func TestR3Take(t *testing.T) {
	for _, kind := range kinds {
		m := right(kind, 3)
		whole := append(packed(m), 1, 2, 3)
		b := whole[:len(whole)-3]
		before := bytes.Clone(whole)
		first, err := message.Take(3, b)
		if err != api.OK || !same(first, m) || !bytes.Equal(whole, before) {
			t.Errorf("kind %d: %v, or it was changed", kind, err)
		}
		second, _ := message.Take(3, b)
		for i := range whole {
			whole[i] = 77
		}
		if !same(first, m) || !same(second, m) {
			t.Errorf("kind %d: what was handed in is kept", kind)
		}
		scribble(first)
		if third, _ := message.Take(3, before[:len(b)]); !same(second, m) || !same(third, m) {
			t.Errorf("kind %d: what was handed out is shared", kind)
		}
	}
	m := api.Message{Kind: api.Answer, Op: 1, Records: recs(3, 50)}
	got, _ := message.Take(3, packed(m))
	for _, r := range got.Records { // who adds to one changes no other one
		_ = append(r.Values, 77, 77, 77, 77)
	}
	if !same(got, m) {
		t.Error("records share their values")
	}
}

// scribble writes into all that a message has, and into the room behind it.
func scribble(m api.Message) {
	values := m.Entry.Record.Values[:cap(m.Entry.Record.Values)]
	for i := range values {
		values[i] = 77
	}
	box := m.Box[:cap(m.Box)]
	for i := range box {
		box[i] = api.Range{Kind: 77}
	}
	records := m.Records[:cap(m.Records)]
	for i := range records {
		for k := range records[i].Values {
			records[i].Values[k] = 77
		}
		records[i] = api.Record{}
	}
}

// TestTakeTellsLittle: a few bytes that tell of many records or ranges end soon.
func TestTakeTellsLittle(t *testing.T) {
	b := packed(api.Message{Kind: api.Answer, Op: 1})
	binary.BigEndian.PutUint16(b[17:], math.MaxUint16)
	n := testing.AllocsPerRun(10, func() { message.Take(1, b) })
	if n > 20 {
		t.Errorf("%v lists are made for 19 bytes", n)
	}
}
