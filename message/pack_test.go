package message_test

import (
	"bytes"
	"slices"
	"testing"

	"petasos/api"
	"petasos/message"
)

// entry is an entry of two values, of which the second is its own.
func entry(gone bool) api.Entry {
	r := api.Record{Id: 0x0000000a_11121314, Version: 0x2122232425262728, Values: []uint32{0x31323334, 0x41424344}}
	return api.Entry{Value: 0x41424344, Record: r, Gone: gone}
}

// row6 is a message of two attributes, and its bytes.
type row6 struct {
	what string
	m    api.Message
	want []byte
}

// written are messages of each kind, whose bytes are written out.
func written() []row6 {
	inside := []byte{0, 0, 0, 10, 0x11, 0x12, 0x13, 0x14, 0x21, 0x22, 0x23, 0x24, 0x25, 0x26, 0x27, 0x28, 0x31, 0x32, 0x33, 0x34, 0x41, 0x42, 0x43, 0x44}
	e, v := entry(false), uint32(0x41424344)
	return []row6{
		{"Store", api.Message{Kind: api.Store, Hub: 1, Client: 15, Op: 258, Point: 0x51525354, Entry: e, Target: v, Hops: 100},
			slices.Concat([]byte{1, 1, 15, 1, 2, 0x51, 0x52, 0x53, 0x54, 0}, inside, []byte{100})},
		{"Store, gone", api.Message{Kind: api.Store, Hub: 1, Op: 1, Entry: entry(true), Target: v},
			slices.Concat([]byte{1, 1, 0, 0, 1, 0, 0, 0, 0, 1}, inside, []byte{0})},
		{"Copy", api.Message{Kind: api.Copy, Hub: 1, Client: 2, Op: 500, Point: 255, Entry: entry(true), Target: v, Owner: 0x61626364, Turn: 0x7fffffff},
			slices.Concat([]byte{2, 1, 2, 1, 0xf4, 0, 0, 0, 255, 1}, inside, []byte{0x61, 0x62, 0x63, 0x64, 0x7f, 255, 255, 255})},
		{"Copied", api.Message{Kind: api.Copied, Hub: 1, Client: 2, Op: 255, Point: top, Entry: e, Target: v, Owner: top, Turn: 1},
			slices.Concat([]byte{3, 1, 2, 0, 255, 255, 255, 255, 255, 0}, inside, []byte{255, 255, 255, 255, 0, 0, 0, 1})},
		{"Copied, of zeros", api.Message{Kind: api.Copied, Hub: 1, Op: 256, Entry: e, Target: v},
			slices.Concat([]byte{3, 1, 0, 1, 0, 0, 0, 0, 0, 0}, inside, make([]byte, 8))},
		{"Ack", api.Message{Kind: api.Ack, Hub: 1, Client: 3, Op: 9, Entry: entry(true), Target: v},
			slices.Concat([]byte{4, 1, 3, 0, 9, 0, 0, 0, 0, 1}, inside)},
		{"Ask", api.Message{Kind: api.Ask, Client: 4, Op: 300, Point: 7, Hops: 8, Span: api.Span{From: 0x81828384, To: 0x91929394}, Box: []api.Range{
			{Kind: api.Between, Lo: 0xa1a2a3a4, Hi: 0xb1b2b3b4}, {Kind: api.Any},
		}}, []byte{5, 0, 4, 1, 44, 0, 0, 0, 7, 8, 0x81, 0x82, 0x83, 0x84, 0x91, 0x92, 0x93, 0x94, 2,
			2, 0xa1, 0xa2, 0xa3, 0xa4, 0xb1, 0xb2, 0xb3, 0xb4, 1, 0, 0, 0, 0, 0, 0, 0, 0}},
		{"Ask of Nothing", api.Message{Kind: api.Ask, Op: 1, Box: []api.Range{{Kind: api.Nothing}, {Kind: api.Between}}},
			slices.Concat([]byte{5, 0, 0, 0, 1}, make([]byte, 13), []byte{2, 3, 0, 0, 0, 0, 0, 0, 0, 0, 2, 0, 0, 0, 0, 0, 0, 0, 0})},
		{"Answer", api.Message{Kind: api.Answer, Client: 5, Op: 1, Span: api.Span{From: 0x81828384, To: 9}, Records: []api.Record{
			e.Record, {Id: 0xf00000001, Version: 2, Values: []uint32{3, 4}},
		}}, slices.Concat([]byte{6, 0, 5, 0, 1, 0, 0, 0, 0, 0x81, 0x82, 0x83, 0x84, 0, 0, 0, 9, 0, 2}, inside,
			[]byte{0, 0, 0, 15, 0, 0, 0, 1, 0, 0, 0, 0, 0, 0, 0, 2, 0, 0, 0, 3, 0, 0, 0, 4})},
		{"Answer of nothing", api.Message{Kind: api.Answer, Hub: 1, Op: 1, Span: api.Span{From: 1, To: 2}},
			[]byte{6, 1, 0, 0, 1, 0, 0, 0, 0, 0, 0, 0, 1, 0, 0, 0, 2, 0, 0}},
		{"Answer of an empty list", api.Message{Kind: api.Answer, Op: 1, Records: []api.Record{}},
			slices.Concat([]byte{6, 0, 0, 0, 1}, make([]byte, 14))},
	}
}

func TestP6_1Pack(t *testing.T) {
	for _, r := range written() {
		if got, err := message.Pack(2, r.m); err != api.OK || !bytes.Equal(got, r.want) {
			t.Errorf("%s: Pack: %v, %v; want %v", r.what, got, err, r.want)
		}
	}
}

func TestP6_2Take(t *testing.T) {
	for _, r := range written() {
		if got, err := message.Take(2, r.want); err != api.OK || !same(got, r.m) {
			t.Errorf("%s: Take: %v, %v; want %v", r.what, got, err, r.m)
		}
	}
}

// TestWhatFollows: what is packed is taken, of each kind, each count of attributes, and each turn.
func TestWhatFollows(t *testing.T) {
	for _, turn := range turns() {
		for _, kind := range turn.right {
			for attrs := 1; attrs <= maxAttrs; attrs++ {
				m := right(kind, attrs)
				turn.do(&m)
				packsAndTakes(t, turn.what, attrs, m)
			}
		}
	}
}

// packsAndTakes holds Pack of a message that is right against the plain one, and takes it.
func packsAndTakes(t *testing.T, what string, attrs int, m api.Message) {
	t.Helper()
	b, err := message.Pack(attrs, m)
	if err != api.OK || !bytes.Equal(b, packed(m)) {
		t.Errorf("%s: Pack(%d) of the kind %d: %v, %d bytes; want %d", what, attrs, m.Kind, err, len(b), len(packed(m)))
		return
	}
	got, err := message.Take(attrs, b)
	if err != api.OK || !same(got, m) {
		t.Errorf("%s: Take(%d) of the kind %d: %v, %v", what, attrs, m.Kind, err, got)
	}
}

// strewnRecord is a record that is right, from all over.
func strewnRecord(next func() uint64, attrs int) api.Record {
	r := api.Record{Id: next() >> 28, Version: max(next()>>(next()%64), 1), Values: make([]uint32, attrs)}
	for i := range r.Values {
		r.Values[i] = uint32(next())
	}
	return r
}

// strewnRight is a message that is right, from all over.
func strewnRight(next func() uint64, attrs int) api.Message {
	m := right(kinds[next()%6], attrs)
	m.Hub, m.Client, m.Op = int(next()%uint64(attrs)), int(next()%maxClients), int(next()%maxOps)+1
	if slices.Contains(points, m.Kind) {
		m.Point = uint32(next())
	}
	if slices.Contains(entries, m.Kind) {
		r := strewnRecord(next, attrs)
		m.Entry = api.Entry{Value: r.Values[m.Hub], Record: r, Gone: next()%2 == 0}
		m.Target = m.Entry.Value
	}
	if slices.Contains(owners, m.Kind) {
		m.Owner, m.Turn = uint32(next()), int(next()>>33)
	}
	if slices.Contains(hops, m.Kind) {
		m.Hops = int(next() % (maxHops + 1))
	}
	if slices.Contains(spans, m.Kind) {
		m.Span = api.Span{From: uint32(next()), To: uint32(next())}
	}
	for i := range m.Box {
		m.Box[i] = api.Range{Kind: int(next()%3) + 1}
		if m.Box[i].Kind == api.Between {
			m.Box[i].Lo, m.Box[i].Hi = uint32(next()), uint32(next())
		}
	}
	if m.Kind == api.Answer {
		m.Records = make([]api.Record, next()%20)
		for i := range m.Records {
			m.Records[i] = strewnRecord(next, attrs)
		}
	}
	return m
}

func TestWhatFollowsStrewn(t *testing.T) {
	next := strewn(6)
	for range 20000 {
		attrs := int(next()%maxAttrs) + 1
		m := strewnRight(next, attrs)
		if !message.Right(attrs, m) {
			t.Errorf("Right(%d, %v): false", attrs, m)
		}
		packsAndTakes(t, "strewn", attrs, m)
	}
}

// TestR1 has nonsense packed: each call ends, a second one answers the same, and what is right alone is packed.
func TestR1(t *testing.T) {
	next := strewn(1)
	odd := func() int {
		l := []int{0, 1, 2, 3, 7, 8, 9, 15, 16, 100, 101, 256, 500, 501, maxTurn, maxTurn + 1, -1, int(next())}
		return l[next()%uint64(len(l))]
	}
	for range 20000 {
		attrs := int(next()%maxAttrs) + 1
		m := strewnRight(next, attrs)
		for range next() % 4 {
			for i, p := range []*int{&m.Kind, &m.Hub, &m.Client, &m.Op, &m.Hops, &m.Turn, &attrs} {
				if next()%12 == uint64(i) {
					*p = odd()
				}
			}
			other := strewnRight(next, int(next()%maxAttrs)+1)
			switch next() % 12 {
			case 0:
				m.Entry = other.Entry
			case 1:
				m.Box = other.Box
			case 2:
				m.Records = other.Records
			case 3:
				m.Span, m.Point = other.Span, other.Point
			case 4:
				m.Target, m.Owner = other.Target, other.Owner
			}
		}
		is := message.Right(attrs, m)
		b, err := message.Pack(attrs, m)
		again, errAgain := message.Pack(attrs, m)
		if is != message.Right(attrs, m) || !bytes.Equal(b, again) || err != errAgain || is != (err == api.OK) {
			t.Errorf("%d, %v: %v, %v", attrs, m, is, err)
		}
		if is {
			packsAndTakes(t, "nonsense", attrs, m)
		} else if err != api.ErrForm || b != nil {
			t.Errorf("Pack(%d, %v): %v, %v", attrs, m, b, err)
		}
	}
}

// TestR3Pack: what is handed in is not changed, the room behind its ends counts for nothing, and what is handed out is new.
func TestR3Pack(t *testing.T) {
	for _, kind := range kinds {
		m := right(kind, 3)
		m.Entry.Record.Values = append(m.Entry.Record.Values, 77, 78)[:len(m.Entry.Record.Values)]
		m.Box = append(m.Box, api.Range{Kind: 9, Lo: 5}, api.Range{})[:len(m.Box)]
		m.Records = append(m.Records, api.Record{Id: 1 << 60}, api.Record{})[:len(m.Records)]
		before := deep(m)
		behind := deep(api.Message{Box: m.Box[:cap(m.Box)], Records: m.Records[:cap(m.Records)]})
		first, err := message.Pack(3, m)
		want := bytes.Clone(first)
		if err != api.OK || !bytes.Equal(want, packed(before)) || !message.Right(3, m) {
			t.Errorf("kind %d: the room behind the ends counts: %v", kind, err)
		}
		if !same(m, before) || !same(behind, api.Message{Box: m.Box[:cap(m.Box)], Records: m.Records[:cap(m.Records)]}) {
			t.Errorf("kind %d: what was handed in was changed", kind)
		}
		second, _ := message.Pack(3, m)
		for i := range first[:cap(first)] {
			first[:cap(first)][i] = 77
		}
		if third, _ := message.Pack(3, m); !bytes.Equal(second, want) || !bytes.Equal(third, want) {
			t.Errorf("kind %d: what was handed out is shared", kind)
		}
	}
}
