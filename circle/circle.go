// Package circle is layer 1: spans of the circle of all values. See shared/doc/01-circle.md.
package circle

import (
	"petasos/api"
)

// round is how many steps lead once round the circle: one more than a value can tell.
const round = uint64(1) << 32

// Has tells whether v is one of the values of s.
func Has(s api.Span, v uint32) bool { return behind(s.From, v) <= Size(s) }

// Size tells how many values s has.
func Size(s api.Span) uint64 { return behind(s.From, s.To) }

// Far tells how many steps round lead from one value to another.
func Far(from, to uint32) uint32 { return to - from }

// Meet tells the values that are in both a and b, as spans in the order of a.
func Meet(a, b api.Span) []api.Span {
	if b.From == b.To {
		// It has no end at which a would have to be cut.
		return []api.Span{a}
	}
	from := uint64(Far(a.From, b.From))
	to := from + Size(b)
	if to <= round {
		return cut(nil, a, from, to)
	}
	// b goes on over a's From: what lies behind that comes first. The two
	// pieces never touch, as b leaves out a value at least.
	return cut(cut(nil, a, 0, to-round), a, from, round)
}

// Less tells the values of a that are not in b, as spans in the order of a.
func Less(a, b api.Span) []api.Span {
	if b.From == b.To {
		return nil
	}
	return Meet(a, api.Span{From: b.To, To: b.From})
}

// Middle tells the value that is half of the size of s behind its From.
func Middle(s api.Span) uint32 { return s.From + uint32(Size(s)>>1) }

// behind is Far, but that a value is a whole round behind itself: a span's
// From is the last value that one comes to from it.
func behind(from, v uint32) uint64 { return uint64(v-from-1) + 1 }

// cut adds to l the values of a that are more than from, and at most to,
// steps behind its From, if there are any.
func cut(l []api.Span, a api.Span, from, to uint64) []api.Span {
	to = min(to, Size(a))
	if from >= to {
		return l
	}
	return append(l, api.Span{From: a.From + uint32(from), To: a.From + uint32(to)})
}
