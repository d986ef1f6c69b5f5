package pool_test

import (
	"bytes"
	"math"
	"slices"
	"testing"

	"petasos/api"
	"petasos/pool"
)

// plain is the chapter's pool by a list that is gone through place by place, of messages that it alone has.
type plain struct{ list [][]byte }

func own(b []byte) []byte { return append([]byte{}, b...) }

func (p *plain) is(i int) bool {
	for place := range p.list {
		if place == i {
			return true
		}
	}
	return false
}

func (p *plain) push(b []byte) api.Errno {
	if len(p.list) == api.MaxPool {
		return api.ErrFull
	}
	p.list = append(slices.Clip(p.list), own(b)) // a new list: others may have the old one
	return api.OK
}

func (p *plain) take(i int) ([]byte, api.Errno) {
	if !p.is(i) {
		return nil, api.ErrNone
	}
	var rest [][]byte
	for place, b := range p.list {
		if place != i {
			rest = append(rest, b)
		}
	}
	b := p.list[i]
	p.list = rest
	return own(b), api.OK
}

func (p *plain) double(i int) api.Errno {
	if !p.is(i) {
		return api.ErrNone
	}
	return p.push(p.list[i])
}

// fork shares the list: it is not written into again, nor are its messages.
func (p *plain) fork() *plain { return &plain{p.list} }

// check holds a pool against the messages that it should have, in order, and asks it for places past the ends; of what
// is wrong it tells the first.
func check(t *testing.T, what string, p *pool.Pool, want [][]byte) {
	t.Helper()
	if got := p.Len(); got != len(want) {
		t.Errorf("%s: Len: %d; want %d", what, got, len(want))
	}
	for i, b := range want {
		if got, is := p.Peek(i); !is || !bytes.Equal(got, b) {
			t.Errorf("%s: Peek(%d) of %d: %v, %v; want %v", what, i, len(want), got, is, b)
			return
		}
	}
	for _, i := range outside(len(want)) {
		if got, is := p.Peek(i); is || got != nil {
			t.Errorf("%s: Peek(%d) of %d: %v, %v; want nothing", what, i, len(want), got, is)
			return
		}
	}
}

// outside tells places at which there is none of n messages; some of them would be such as are there, were they cut to
// fewer bits.
func outside(n int) []int {
	l := []int{n, n + 1, n + 2, 2*n + 1, api.MaxPool, api.MaxPool + 1, 1 << 16, 1 << 31, 1 << 32, 1 << 62, math.MaxInt - 1, math.MaxInt,
		-1, -2, -n, -n - 1, -api.MaxPool, -1 << 8, -1 << 16, -1 << 31, -1 << 32, -1 << 62, math.MinInt, math.MinInt + 1}
	for _, bits := range []int{8, 13, 16, 31, 32, 48, 62} {
		l = append(l, 1<<bits, 1<<bits+1, 1<<bits-1, 1<<bits+n-1, -1<<bits+n-1, -1<<bits, -1<<bits+1)
	}
	return slices.DeleteFunc(l, func(i int) bool { return i >= 0 && i < n })
}

// texts are messages of many lengths, none like another.
func texts(n int) [][]byte {
	var l [][]byte
	for i := range n {
		b := []byte{byte(i), byte(i >> 8)}
		for k := range i % 7 {
			b = append(b, byte(i*31+k))
		}
		l = append(l, b)
	}
	return l
}

// filled makes a pool of these messages.
func filled(t *testing.T, l [][]byte) *pool.Pool {
	t.Helper()
	p := pool.New()
	for i, b := range l {
		if err := p.Push(b); err != api.OK {
			t.Fatalf("Push of the message %d: %d", i, err)
		}
	}
	return p
}

// strewn makes numbers one after the other, alike for the same seed.
func strewn(seed uint64) func() int {
	return func() int {
		seed = seed*6364136223846793005 + 1442695040888963407
		return int(seed >> 33)
	}
}

// spoil writes into b, and into the room behind its end.
func spoil(b []byte) {
	b = b[:cap(b)]
	for i := range b {
		b[i] ^= 0xee
	}
}
