package message_test

import (
	"encoding/binary"
	"math"
	"slices"

	"petasos/api"
)

const (
	maxAttrs   = 8
	maxClients = 16
	maxOps     = 500
	maxHops    = 100
	maxRecords = 10000
	maxTurn    = math.MaxInt32
	top        = math.MaxUint32
)

// kinds are those that there are.
var kinds = []int{api.Store, api.Copy, api.Copied, api.Ack, api.Ask, api.Answer}

// noKinds are some that there are not: also such as would be one, were they cut.
var noKinds = []int{
	0, -1, -5, 7, 8, 14, 100, 255, 256, 257, 258, 261, 262, -255, -250, 1<<16 + 1, 1<<31 + 5, -1 << 31, math.MaxInt, math.MinInt, math.MinInt + 1, 1<<32 + 1, 1<<32 + 6,
}

// strewn gives numbers from all over, the same ones each time.
func strewn(seed uint64) func() uint64 {
	x := seed
	return func() uint64 {
		x = x*6364136223846793005 + 1442695040888963407
		return x ^ x>>29
	}
}

// row is n values, none like its neighbour.
func row(n int) []uint32 {
	l := make([]uint32, n)
	for i := range l {
		l[i] = uint32(i)*0x9e3779b9 + 0x01020304
	}
	return l
}

// recs is n records of attrs values.
func recs(attrs, n int) []api.Record {
	l := make([]api.Record, n)
	for i := range l {
		l[i] = api.Record{Id: uint64(i%maxClients)<<32 + uint64(i), Version: uint64(i) + 1, Values: row(attrs)}
		l[i].Values[0] = uint32(i)
	}
	return l
}

// ranges is n ranges, of each kind.
func ranges(n int) []api.Range {
	l := make([]api.Range, n)
	for i := range l {
		l[i] = api.Range{Kind: (i+1)%3 + 1}
		if l[i].Kind == api.Between {
			l[i].Lo, l[i].Hi = uint32(i)+0x0a0b0c0d, uint32(i)+9
		}
	}
	return l
}

// right is a message of a kind that is right.
func right(kind, attrs int) api.Message {
	m := api.Message{Kind: kind, Hub: attrs - 1, Client: 3, Op: 258, Point: 0x05060708}
	switch kind {
	case api.Store, api.Copy, api.Copied, api.Ack:
		r := api.Record{Id: 3<<32 + 5, Version: 0x1122334455667788, Values: row(attrs)}
		m.Entry = api.Entry{Value: r.Values[m.Hub], Record: r, Gone: true}
		m.Target = m.Entry.Value
	}
	switch kind {
	case api.Store:
		m.Hops = 7
	case api.Copy, api.Copied:
		m.Owner, m.Turn = 0xa1a2a3a4, 0x71727374
	case api.Ack:
		m.Point = 0
	case api.Ask:
		m.Hops, m.Span, m.Box = 9, api.Span{From: 0xb1b2b3b4, To: 0xc1c2c3c4}, ranges(attrs)
	case api.Answer:
		m.Point, m.Span, m.Records = 0, api.Span{From: 0xd1d2d3d4, To: 0xe1e2e3e4}, recs(attrs, 3)
	}
	return m
}

// sameRecord tells whether two records are the same; nil and an empty list are.
func sameRecord(a, b api.Record) bool {
	return a.Id == b.Id && a.Version == b.Version && slices.Equal(a.Values, b.Values)
}

// same tells whether two messages are the same.
func same(a, b api.Message) bool {
	return a.Kind == b.Kind && a.Hub == b.Hub && a.Point == b.Point && a.Client == b.Client && a.Op == b.Op &&
		a.Target == b.Target && a.Hops == b.Hops && a.Owner == b.Owner && a.Turn == b.Turn &&
		a.Entry.Value == b.Entry.Value && a.Entry.Gone == b.Entry.Gone && sameRecord(a.Entry.Record, b.Entry.Record) &&
		a.Span == b.Span && slices.Equal(a.Box, b.Box) && slices.EqualFunc(a.Records, b.Records, sameRecord)
}

// deep is another message, alike, that shares nothing.
func deep(m api.Message) api.Message {
	m.Entry.Record.Values = slices.Clone(m.Entry.Record.Values)
	m.Box = slices.Clone(m.Box)
	m.Records = slices.Clone(m.Records)
	for i := range m.Records {
		m.Records[i].Values = slices.Clone(m.Records[i].Values)
	}
	return m
}

// packRecord tells plainly how a record is packed.
func packRecord(l []byte, r api.Record) []byte {
	l = binary.BigEndian.AppendUint64(l, r.Id)
	l = binary.BigEndian.AppendUint64(l, r.Version)
	for _, v := range r.Values {
		l = binary.BigEndian.AppendUint32(l, v)
	}
	return l
}

// packed tells plainly what Pack should, of a message that is right, and of
// one that is wrong what would be its bytes.
func packed(m api.Message) []byte {
	l := []byte{byte(m.Kind), byte(m.Hub), byte(m.Client)}
	l = binary.BigEndian.AppendUint16(l, uint16(m.Op))
	l = binary.BigEndian.AppendUint32(l, m.Point)
	switch m.Kind {
	case 1, 2, 3, 4:
		gone := byte(0)
		if m.Entry.Gone {
			gone = 1
		}
		l = packRecord(append(l, gone), m.Entry.Record)
	case 5:
		l = append(l, byte(m.Hops))
	}
	switch m.Kind {
	case 1:
		l = append(l, byte(m.Hops))
	case 2, 3:
		l = binary.BigEndian.AppendUint32(l, m.Owner)
		l = binary.BigEndian.AppendUint32(l, uint32(m.Turn))
	case 5, 6:
		l = binary.BigEndian.AppendUint32(l, m.Span.From)
		l = binary.BigEndian.AppendUint32(l, m.Span.To)
	}
	switch m.Kind {
	case 5:
		l = append(l, byte(len(m.Box)))
		for _, r := range m.Box {
			l = append(l, byte(r.Kind))
			l = binary.BigEndian.AppendUint32(l, r.Lo)
			l = binary.BigEndian.AppendUint32(l, r.Hi)
		}
	case 6:
		l = binary.BigEndian.AppendUint16(l, uint16(len(m.Records)))
		for _, r := range m.Records {
			l = packRecord(l, r)
		}
	}
	return l
}

// asked tells plainly how many bytes b is to have, by what it begins with;
// where that itself is cut off, one more than there are.
func asked(attrs int, b []byte) int {
	switch b[0] {
	case 1:
		return 9 + 17 + 4*attrs + 1
	case 2, 3:
		return 9 + 17 + 4*attrs + 8
	case 4:
		return 9 + 17 + 4*attrs
	case 5:
		if len(b) < 19 {
			return len(b) + 1
		}
		return 19 + 9*int(b[18])
	}
	if len(b) < 19 {
		return len(b) + 1
	}
	return 19 + (16+4*attrs)*int(binary.BigEndian.Uint16(b[17:]))
}

// goodRecord tells plainly whether bytes are those of a record.
func goodRecord(b []byte) bool {
	return binary.BigEndian.Uint64(b)>>32 < 16 && binary.BigEndian.Uint64(b[8:]) > 0
}

// goodRest tells plainly, of bytes that are as long as they should be, whether
// what lies behind the first nine of them may be so.
func goodRest(attrs int, b []byte) bool {
	switch b[0] {
	case 1, 2, 3, 4:
		if b[9] > 1 || !goodRecord(b[10:]) {
			return false
		}
		end := 26 + 4*attrs
		return b[0] == 4 || b[0] == 1 && b[end] <= 100 || (b[0] == 2 || b[0] == 3) && b[end+4] < 128
	case 5:
		for i := 19; i < len(b); i += 9 {
			if k := b[i]; k < 1 || k > 3 || k != 2 && binary.BigEndian.Uint64(b[i+1:]) != 0 {
				return false
			}
		}
		return b[9] <= 100 && int(b[18]) == attrs
	}
	for i := 19; i < len(b); i += 16 + 4*attrs {
		if !goodRecord(b[i:]) {
			return false
		}
	}
	return binary.BigEndian.Uint16(b[17:]) <= 10000
}

// refused tells plainly with which error Take refuses b, if it does.
func refused(attrs int, b []byte) api.Errno {
	switch {
	case attrs < 1 || attrs > 8:
		return api.ErrArg
	case len(b) < 9:
		return api.ErrShort
	case b[0] < 1 || b[0] > 6:
		return api.ErrForm
	case len(b) < asked(attrs, b):
		return api.ErrShort
	case len(b) > asked(attrs, b):
		return api.ErrForm
	}
	op := binary.BigEndian.Uint16(b[3:])
	head := int(b[1]) < attrs && b[2] < 16 && op >= 1 && op <= 500
	point := b[0] != 4 && b[0] != 6 || binary.BigEndian.Uint32(b[5:]) == 0
	if !head || !point || !goodRest(attrs, b) {
		return api.ErrForm
	}
	return api.OK
}
