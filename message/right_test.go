package message_test

import (
	"math"
	"slices"
	"testing"

	"petasos/api"
	"petasos/message"
)

// Which kinds have what.
var (
	all     = kinds
	none    []int
	entries = []int{api.Store, api.Copy, api.Copied, api.Ack}
	owners  = []int{api.Copy, api.Copied}
	hops    = []int{api.Store, api.Ask}
	spans   = []int{api.Ask, api.Answer}
	asks    = []int{api.Ask}
	answers = []int{api.Answer}
	points  = []int{api.Store, api.Copy, api.Copied, api.Ask}
)

// without is l, but for what is in less.
func without(l []int, less []int) []int {
	return slices.DeleteFunc(slices.Clone(l), func(k int) bool { return slices.Contains(less, k) })
}

// move gives an entry another value of its hub: all three places of it.
func move(m *api.Message, v uint32) {
	m.Entry.Record.Values[m.Hub], m.Entry.Value, m.Target = v, v, v
}

// rangeOf puts a range in the last place of a box, if there is one.
func rangeOf(m *api.Message, r api.Range) {
	if n := len(m.Box); n > 0 {
		m.Box[n-1] = r
	}
}

// turn is what is done to a message that is right, and of which kinds it is right then.
type turn struct {
	what  string
	do    func(m *api.Message)
	right []int
}

// ofAll are turns of what all messages have.
func ofAll() []turn {
	return []turn{
		{"nothing", func(m *api.Message) {}, all},
		{"hub below 0", func(m *api.Message) { m.Hub = -1 }, none},
		{"hub far below", func(m *api.Message) { m.Hub = math.MinInt }, none},
		{"hub of attrs", func(m *api.Message) { m.Hub++ }, none},
		{"hub of MaxAttrs", func(m *api.Message) { m.Hub = maxAttrs }, none},
		{"hub far above", func(m *api.Message) { m.Hub = math.MaxInt }, none},
		{"hub modulo 256", func(m *api.Message) { m.Hub += 256 }, none},
		{"client 0", func(m *api.Message) { m.Client = 0 }, all},
		{"the last client", func(m *api.Message) { m.Client = maxClients - 1 }, all},
		{"client of MaxClients", func(m *api.Message) { m.Client = maxClients }, none},
		{"client below 0", func(m *api.Message) { m.Client = -1 }, none},
		{"client far below", func(m *api.Message) { m.Client = math.MinInt }, none},
		{"client modulo 256", func(m *api.Message) { m.Client += 256 }, none},
		{"op 0", func(m *api.Message) { m.Op = 0 }, none},
		{"op 1", func(m *api.Message) { m.Op = 1 }, all},
		{"op of MaxOps", func(m *api.Message) { m.Op = maxOps }, all},
		{"op above MaxOps", func(m *api.Message) { m.Op = maxOps + 1 }, none},
		{"op below 0", func(m *api.Message) { m.Op = -1 }, none},
		{"op modulo 65,536", func(m *api.Message) { m.Op += 1 << 16 }, none},
		{"op far below", func(m *api.Message) { m.Op = math.MinInt + 1 }, none},
		{"point 0", func(m *api.Message) { m.Point = 0 }, all},
		{"point 1", func(m *api.Message) { m.Point = 1 }, points},
		{"the greatest point", func(m *api.Message) { m.Point = top }, points},
	}
}

// ofParts are turns of what some have: numbers, and a span.
func ofParts() []turn {
	return []turn{
		{"hops 0", func(m *api.Message) { m.Hops = 0 }, all},
		{"hops 1", func(m *api.Message) { m.Hops = 1 }, hops},
		{"hops of MaxHops", func(m *api.Message) { m.Hops = maxHops }, hops},
		{"hops above MaxHops", func(m *api.Message) { m.Hops = maxHops + 1 }, none},
		{"hops below 0", func(m *api.Message) { m.Hops = -1 }, none},
		{"hops modulo 256", func(m *api.Message) { m.Hops += 256 }, none},
		{"owner 0", func(m *api.Message) { m.Owner = 0 }, all},
		{"owner 1", func(m *api.Message) { m.Owner = 1 }, owners},
		{"the greatest owner", func(m *api.Message) { m.Owner = top }, owners},
		{"turn 0", func(m *api.Message) { m.Turn = 0 }, all},
		{"turn 1", func(m *api.Message) { m.Turn = 1 }, owners},
		{"the greatest turn", func(m *api.Message) { m.Turn = maxTurn }, owners},
		{"turn above", func(m *api.Message) { m.Turn = maxTurn + 1 }, none},
		{"turn of 32 bits", func(m *api.Message) { m.Turn = top }, none},
		{"turn modulo 2^32", func(m *api.Message) { m.Turn = 1 << 32 }, none},
		{"turn below 0", func(m *api.Message) { m.Turn = -1 }, none},
		{"turn far below", func(m *api.Message) { m.Turn = math.MinInt }, none},
		{"span of zeros", func(m *api.Message) { m.Span = api.Span{} }, all},
		{"span from 1", func(m *api.Message) { m.Span = api.Span{From: 1} }, spans},
		{"span to 1", func(m *api.Message) { m.Span = api.Span{To: 1} }, spans},
		{"a whole span", func(m *api.Message) { m.Span = api.Span{From: top, To: top} }, spans},
	}
}

// ofEntries are turns of entries and targets.
func ofEntries() []turn {
	return []turn{
		{"no entry", func(m *api.Message) { m.Entry = api.Entry{} }, without(all, entries)},
		{"neither entry nor target", func(m *api.Message) { m.Entry, m.Target = api.Entry{}, 0 }, without(all, entries)},
		{"a wrong target", func(m *api.Message) { m.Target++ }, none},
		{"a wrong value", func(m *api.Message) { m.Entry.Value++ }, none},
		{"a target that is wrong alike", func(m *api.Message) { m.Entry.Value++; m.Target++ }, none},
		{"gone turned round", func(m *api.Message) { m.Entry.Gone = !m.Entry.Gone }, entries},
		{"id 0", func(m *api.Message) { m.Entry.Record.Id = 0 }, all},
		{"the greatest id", func(m *api.Message) { m.Entry.Record.Id = 16<<32 - 1 }, entries},
		{"an id of another client", func(m *api.Message) { m.Entry.Record.Id = 9<<32 + 1 }, entries},
		{"an id of no client", func(m *api.Message) { m.Entry.Record.Id = 16 << 32 }, none},
		{"version 0", func(m *api.Message) { m.Entry.Record.Version = 0 }, without(all, entries)},
		{"version 1", func(m *api.Message) { m.Entry.Record.Version = 1 }, entries},
		{"the greatest version", func(m *api.Message) { m.Entry.Record.Version = math.MaxUint64 }, entries},
		{"no values", func(m *api.Message) { m.Entry.Record.Values = nil }, without(all, entries)},
		{"an empty list of values", func(m *api.Message) { m.Entry.Record.Values = []uint32{} }, without(all, entries)},
		{"a value more", func(m *api.Message) { m.Entry.Record.Values = append(m.Entry.Record.Values, 0) }, none},
		{"a value 0", func(m *api.Message) {
			if len(m.Entry.Record.Values) > 0 {
				move(m, 0)
			}
		}, all},
		{"the greatest value", func(m *api.Message) {
			if len(m.Entry.Record.Values) > 0 {
				move(m, top)
			}
		}, all},
	}
}

// ofLists are turns of boxes and records.
func ofLists() []turn {
	return []turn{
		{"no box", func(m *api.Message) { m.Box = nil }, without(all, asks)},
		{"an empty box", func(m *api.Message) { m.Box = []api.Range{} }, without(all, asks)},
		{"a range more", func(m *api.Message) { m.Box = append(m.Box, api.Range{Kind: api.Any}) }, none},
		{"a range that is no kind", func(m *api.Message) { m.Box = append(m.Box[:max(len(m.Box)-1, 0):max(len(m.Box)-1, 0)], api.Range{}) }, none},
		{"kind 4", func(m *api.Message) { rangeOf(m, api.Range{Kind: 4}) }, without(all, asks)},
		{"kind modulo 256", func(m *api.Message) { rangeOf(m, api.Range{Kind: 257}) }, without(all, asks)},
		{"Any", func(m *api.Message) { rangeOf(m, api.Range{Kind: api.Any}) }, all},
		{"Any with a Lo", func(m *api.Message) { rangeOf(m, api.Range{Kind: api.Any, Lo: 1}) }, without(all, asks)},
		{"Any with a Hi", func(m *api.Message) { rangeOf(m, api.Range{Kind: api.Any, Hi: 1}) }, without(all, asks)},
		{"Nothing", func(m *api.Message) { rangeOf(m, api.Range{Kind: api.Nothing}) }, all},
		{"Nothing with a Lo", func(m *api.Message) { rangeOf(m, api.Range{Kind: api.Nothing, Lo: top}) }, without(all, asks)},
		{"Nothing with a Hi", func(m *api.Message) { rangeOf(m, api.Range{Kind: api.Nothing, Hi: top}) }, without(all, asks)},
		{"Between", func(m *api.Message) { rangeOf(m, api.Range{Kind: api.Between}) }, all},
		{"Between with a Lo", func(m *api.Message) { rangeOf(m, api.Range{Kind: api.Between, Lo: top}) }, all},
		{"Between with a Hi", func(m *api.Message) { rangeOf(m, api.Range{Kind: api.Between, Hi: top}) }, all},
		{"the first with a Lo", func(m *api.Message) {
			if len(m.Box) > 0 {
				m.Box[0] = api.Range{Kind: api.Any, Lo: 5}
			}
		}, without(all, asks)},

		{"no records", func(m *api.Message) { m.Records = nil }, all},
		{"an empty list of records", func(m *api.Message) { m.Records = []api.Record{} }, all},
		{"a record", func(m *api.Message) { m.Records = recs(m.Hub+1, 1) }, answers},
		{"MaxRecords records", func(m *api.Message) { m.Records = recs(m.Hub+1, maxRecords) }, answers},
		{"one record more", func(m *api.Message) { m.Records = recs(m.Hub+1, maxRecords+1) }, none},
		{"as many as 0 modulo 65,536", func(m *api.Message) { m.Records = recs(m.Hub+1, 1<<16) }, none},
		{"a record that is nothing", func(m *api.Message) { m.Records = append(m.Records, api.Record{}) }, none},
		{"records that fall", func(m *api.Message) { slices.Reverse(m.Records) }, all},
		{"a record twice", func(m *api.Message) { m.Records = slices.Concat(recs(m.Hub+1, 2), recs(m.Hub+1, 2)) }, answers},
		{"the first of version 0", func(m *api.Message) { m.Records = recs(m.Hub+1, 3); m.Records[0].Version = 0 }, none},
		{"the last of no client", func(m *api.Message) { m.Records = recs(m.Hub+1, 3); m.Records[2].Id = 16 << 32 }, none},
		{"one of a value less", func(m *api.Message) {
			m.Records = recs(m.Hub+1, 3)
			m.Records[1].Values = m.Records[1].Values[1:]
		}, none},
		{"one of a value more", func(m *api.Message) { m.Records = recs(m.Hub+1, 3); m.Records[1].Values = row(m.Hub + 2) }, none},
		{"the last of MaxRecords of version 0", func(m *api.Message) {
			m.Records = recs(m.Hub+1, maxRecords)
			m.Records[maxRecords-1].Version = 0
		}, none},
	}
}

// turns are all of them. (A message that is right is one of the last hub.)
func turns() []turn { return slices.Concat(ofAll(), ofParts(), ofEntries(), ofLists()) }

// TestP6_1Right does each turn with a message of each kind, and has it packed, too.
func TestP6_1Right(t *testing.T) {
	for _, turn := range turns() {
		for _, kind := range kinds {
			for _, attrs := range []int{1, 2, 3, maxAttrs} {
				m := right(kind, attrs)
				turn.do(&m)
				want := slices.Contains(turn.right, kind)
				if got := message.Right(attrs, m); got != want {
					t.Errorf("%s: Right(%d) of the kind %d: %v", turn.what, attrs, kind, got)
				}
				b, err := message.Pack(attrs, m)
				if want && (err != api.OK || len(b) == 0) || !want && (err != api.ErrForm || b != nil) {
					t.Errorf("%s: Pack(%d) of the kind %d: %d bytes, %v", turn.what, attrs, kind, len(b), err)
				}
			}
		}
	}
}

// TestP6_1RightAttrs: the attributes must be such as there may be, and the message one of them.
func TestP6_1RightAttrs(t *testing.T) {
	counts := []int{math.MinInt, -256, -1, 0, 1, 2, 7, 8, 9, 10, 255, 256, 257, 264, 1<<32 + 1, math.MaxInt}
	for _, kind := range kinds {
		for n := 1; n <= maxAttrs+3; n++ {
			m := right(kind, n)
			for _, attrs := range counts {
				want := attrs == n && n <= 8
				if kind == api.Answer {
					m.Hub, m.Records = 0, recs(n, 1)
				}
				if got := message.Right(attrs, m); got != want {
					t.Errorf("Right(%d) of the kind %d, of %d attributes: %v", attrs, kind, n, got)
				}
				if _, err := message.Pack(attrs, m); (err == api.OK) != want {
					t.Errorf("Pack(%d) of the kind %d, of %d attributes: %v", attrs, kind, n, err)
				}
			}
		}
	}
	for _, attrs := range counts { // an answer without records has nothing that tells how many there are
		m := api.Message{Kind: api.Answer, Op: 1}
		if got := message.Right(attrs, m); got != (attrs >= 1 && attrs <= 8) {
			t.Errorf("Right(%d) of an answer of nothing: %v", attrs, got)
		}
	}
}

// TestP6_1RightHubs: an entry stands under its value of its own hub.
func TestP6_1RightHubs(t *testing.T) {
	for _, kind := range entries {
		for under := range maxAttrs {
			m := right(kind, maxAttrs)
			m.Entry.Value = m.Entry.Record.Values[under]
			m.Target = m.Entry.Value
			for hub := -1; hub <= maxAttrs; hub++ {
				m.Hub = hub
				if got := message.Right(maxAttrs, m); got != (hub == under) {
					t.Errorf("Right of the kind %d, of the hub %d, under the value of %d: %v", kind, hub, under, got)
				}
			}
		}
	}
}

// TestP6_1RightKinds: a kind that is none has no message that is right.
func TestP6_1RightKinds(t *testing.T) {
	for _, kind := range noKinds {
		for _, like := range kinds {
			m := right(like, 2)
			m.Kind = kind
			if message.Right(2, m) {
				t.Errorf("Right of the kind %d, else like %d", kind, like)
			}
			if b, err := message.Pack(2, m); b != nil || err != api.ErrForm {
				t.Errorf("Pack of the kind %d: %v, %v", kind, b, err)
			}
		}
		if m := (api.Message{Kind: kind, Op: 1}); message.Right(1, m) {
			t.Errorf("Right of the kind %d, with nothing else", kind)
		}
	}
	for _, kind := range kinds {
		for _, other := range kinds { // some have the same parts, and an Ack has nothing that the other entries' do not
			m := right(kind, 2)
			m.Kind = other
			want := kind == other || slices.Contains(owners, kind) && slices.Contains(owners, other) ||
				kind == api.Ack && slices.Contains(entries, other)
			if got := message.Right(2, m); got != want {
				t.Errorf("Right of the kind %d, else like %d: %v", other, kind, got)
			}
		}
	}
	if message.Right(1, api.Message{}) || message.Right(0, api.Message{}) {
		t.Error("Right of nothing")
	}
}
