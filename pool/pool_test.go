package pool_test

import (
	"bytes"
	"fmt"
	"slices"
	"sync"
	"testing"

	"petasos/api"
	"petasos/pool"
)

// TestExample is the chapter's.
func TestExample(t *testing.T) {
	p := filled(t, [][]byte{[]byte("a"), []byte("b")})
	for _, want := range []string{"a", "b"} {
		if got, err := p.Take(0); string(got) != want || err != api.OK {
			t.Errorf("Take(0): %q, %d; want %q", got, err, want)
		}
	}
	check(t, "all taken", p, nil)
}

func TestP8_1New(t *testing.T) {
	p := pool.New()
	if p == nil {
		t.Fatal("New: nil")
	}
	check(t, "new", p, nil)
	p.Push([]byte{1})
	check(t, "another new one", pool.New(), nil)
}

// TestP8_1Push: what is pushed is last, and the others stay where they are, alike ones among them.
func TestP8_1Push(t *testing.T) {
	for _, l := range [][][]byte{
		{{1}},
		{{1}, {1}, {1}},
		{{1, 2}, {1}, {2}, {1, 2}},
		{{0}, {0, 0}, {255}, {0, 255, 0}},
		{{0x80}, {0xc0, 0x80}, {0xff, 0xfe}, {0xed, 0xa0, 0x80}}, // no text
		{nil, {1}, {}, {2}, nil},
		{bytes.Repeat([]byte{7}, 1<<20), {8}, bytes.Repeat([]byte{9}, 65536)},
		texts(40),
	} {
		p := pool.New()
		for i, b := range l {
			if err := p.Push(b); err != api.OK {
				t.Errorf("Push(%v): %d", b, err)
			}
			check(t, "pushed", p, l[:i+1])
		}
	}
}

// TestP8_1Take takes each one of pools of each size: it is what was pushed there, and is there no more; those ahead of
// it stay, those behind it move up.
func TestP8_1Take(t *testing.T) {
	for n := 1; n <= 20; n++ {
		l := texts(n)
		for i := range l {
			p := filled(t, l)
			got, err := p.Take(i)
			if err != api.OK || !bytes.Equal(got, l[i]) {
				t.Errorf("Take(%d) of %d: %v, %d; want %v", i, n, got, err, l[i])
			}
			check(t, fmt.Sprintf("%d taken of %d", i, n), p, slices.Concat(l[:i], l[i+1:]))
			p.Push([]byte("new"))
			check(t, "and another one pushed", p, slices.Concat(l[:i], l[i+1:], [][]byte{[]byte("new")}))
		}
	}
}

// TestP8_1TakeAll takes one by one until there are none: from the first place, the last, and one in the middle.
func TestP8_1TakeAll(t *testing.T) {
	for _, r := range []struct {
		what  string
		place func(n int) int
	}{
		{"the first", func(int) int { return 0 }},
		{"the last", func(n int) int { return n - 1 }},
		{"one in the middle", func(n int) int { return n / 2 }},
		{"the one ahead of the last", func(n int) int { return max(n-2, 0) }},
	} {
		left := &plain{texts(60)}
		p := filled(t, left.list)
		for len(left.list) > 0 {
			i := r.place(len(left.list))
			want, _ := left.take(i)
			if got, err := p.Take(i); err != api.OK || !bytes.Equal(got, want) {
				t.Errorf("%s: Take(%d): %v, %d; want %v", r.what, i, got, err, want)
			}
			check(t, r.what, p, left.list)
		}
		if got, err := p.Take(0); got != nil || err != api.ErrNone {
			t.Errorf("%s: Take of none: %v, %d", r.what, got, err)
		}
		p.Push([]byte{5})
		check(t, r.what+": pushed again", p, [][]byte{{5}})
	}
}

// TestP8_1Double: a copy is last, and the one that is doubled stays; both are taken one by one.
func TestP8_1Double(t *testing.T) {
	for n := 1; n <= 20; n++ {
		l := texts(n)
		for i := range l {
			p := filled(t, l)
			if err := p.Double(i); err != api.OK {
				t.Errorf("Double(%d) of %d: %d", i, n, err)
			}
			check(t, fmt.Sprintf("%d doubled of %d", i, n), p, append(slices.Clone(l), l[i]))
			if err := p.Double(n); err != api.OK {
				t.Errorf("Double of a copy: %d", err)
			}
			check(t, "and its copy doubled", p, append(slices.Clone(l), l[i], l[i]))
			if got, err := p.Take(i); err != api.OK || !bytes.Equal(got, l[i]) {
				t.Errorf("Take(%d) of what was doubled: %v, %d; want %v", i, got, err, l[i])
			}
			check(t, "and taken once", p, append(slices.Concat(l[:i], l[i+1:]), l[i], l[i]))
			if got, err := p.Take(n); err != api.OK || !bytes.Equal(got, l[i]) {
				t.Errorf("Take(%d) of a copy's copy: %v, %d; want %v", n, got, err, l[i])
			}
			check(t, "and taken twice", p, append(slices.Concat(l[:i], l[i+1:]), l[i]))
		}
	}
}

// TestP8_1Nothing: bytes of length 0 are a message as others are.
func TestP8_1Nothing(t *testing.T) {
	for _, b := range [][]byte{nil, {}, make([]byte, 0, 9), []byte{1, 2, 3}[1:1]} {
		p := pool.New()
		if err := p.Push(b); err != api.OK {
			t.Errorf("Push of nothing: %d", err)
		}
		check(t, "nothing", p, [][]byte{nil})
		if err := p.Double(0); err != api.OK {
			t.Errorf("Double of nothing: %d", err)
		}
		p.Push([]byte{1})
		check(t, "nothing, twice, and one", p, [][]byte{nil, nil, {1}})
		if got, err := p.Take(1); len(got) != 0 || err != api.OK {
			t.Errorf("Take of nothing: %v, %d", got, err)
		}
		check(t, "nothing, and one", p, [][]byte{nil, {1}})
	}
}

// TestP8_1None asks for places where there is none: it is refused, and nothing is changed.
func TestP8_1None(t *testing.T) {
	for _, n := range []int{0, 1, 2, 3, 17, 256, 300, api.MaxPool - 1, api.MaxPool} {
		l := texts(n)
		p := filled(t, l)
		for _, i := range outside(n) {
			if got, err := p.Take(i); got != nil || err != api.ErrNone {
				t.Errorf("Take(%d) of %d: %v, %d; want nothing, ErrNone", i, n, got, err)
			}
			if err := p.Double(i); err != api.ErrNone {
				t.Errorf("Double(%d) of %d: %d; want ErrNone", i, n, err)
			}
			if got, is := p.Peek(i); got != nil || is {
				t.Errorf("Peek(%d) of %d: %v, %v; want nothing, false", i, n, got, is)
			}
		}
		check(t, "refused", p, l)
	}
}

// TestP8_1Full: there is room for MaxPool, and for no more, until one is taken.
func TestP8_1Full(t *testing.T) {
	left := &plain{texts(api.MaxPool - 1)}
	p := filled(t, left.list)
	left.double(7)
	if err := p.Double(7); err != api.OK {
		t.Errorf("Double as the last one that there is room for: %d", err)
	}
	check(t, "full", p, left.list)
	for _, i := range []int{0, 1, 2500, api.MaxPool - 2, api.MaxPool - 1} {
		for _, b := range [][]byte{nil, {}, {1, 2, 3}} {
			if err := p.Push(b); err != api.ErrFull {
				t.Errorf("Push to a full one: %d; want ErrFull", err)
			}
		}
		if err := p.Double(i); err != api.ErrFull {
			t.Errorf("Double(%d) in a full one: %d; want ErrFull", i, err)
		}
		check(t, "full, and refused", p, left.list)
		want, _ := left.take(i)
		if got, err := p.Take(i); err != api.OK || !bytes.Equal(got, want) {
			t.Errorf("Take(%d) of a full one: %v, %d; want %v", i, got, err, want)
		}
		if err := p.Double(api.MaxPool - 1); err != api.ErrNone {
			t.Errorf("Double of what moved up: %d; want ErrNone", err)
		}
		left.push([]byte{byte(i)})
		if err := p.Push([]byte{byte(i)}); err != api.OK {
			t.Errorf("Push where one was taken: %d", err)
		}
		check(t, "full again", p, left.list)
	}
}

// TestR5Double: of a place where there is none, in a full pool, ErrNone counts, as it is named ahead of ErrFull.
func TestR5Double(t *testing.T) {
	p := filled(t, texts(api.MaxPool))
	for _, i := range outside(api.MaxPool) {
		if err := p.Double(i); err != api.ErrNone {
			t.Errorf("Double(%d) in a full one: %d; want ErrNone", i, err)
		}
	}
	if err := p.Double(api.MaxPool - 1); err != api.ErrFull {
		t.Errorf("Double of the last one in a full one: %d; want ErrFull", err)
	}
}

// TestP8_1Fork goes on with one while the other one is not, and the other way round.
func TestP8_1Fork(t *testing.T) {
	for _, n := range []int{0, 1, 2, 3, 7, 8, 9, 64, 300} {
		l := texts(n)
		for _, d := range deeds() {
			first := filled(t, l)
			second := first.Fork()
			if first == second {
				t.Fatal("the fork is the same one")
			}
			check(t, "what was forked", first, l)
			check(t, "a fork", second, l)

			one, two := &plain{l}, &plain{l}
			d(t, first, one)
			check(t, "what was forked, changed", first, one.list)
			check(t, "a fork, the other one changed", second, l)
			second.Push([]byte("two"))
			two.push([]byte("two"))
			d(t, second, two)
			d(t, second, two)
			check(t, "a fork, changed", second, two.list)
			check(t, "what was forked, its fork changed", first, one.list)

			third, three := second.Fork().Fork(), two.fork()
			d(t, third, three)
			check(t, "a fork's fork's fork, changed", third, three.list)
			check(t, "a fork, its fork changed", second, two.list)
		}
	}
}

// deeds are such as change a pool, each with the same done to a plain one, and what both answer held against each other.
func deeds() []func(*testing.T, *pool.Pool, *plain) {
	take := func(place func(n int) int) func(*testing.T, *pool.Pool, *plain) {
		return func(t *testing.T, p *pool.Pool, like *plain) {
			t.Helper()
			i := place(len(like.list))
			want, wantErr := like.take(i)
			if got, err := p.Take(i); err != wantErr || !bytes.Equal(got, want) {
				t.Errorf("Take(%d): %v, %d; want %v, %d", i, got, err, want, wantErr)
			}
		}
	}
	double := func(place func(n int) int) func(*testing.T, *pool.Pool, *plain) {
		return func(t *testing.T, p *pool.Pool, like *plain) {
			t.Helper()
			i := place(len(like.list))
			if got, want := p.Double(i), like.double(i); got != want {
				t.Errorf("Double(%d): %d; want %d", i, got, want)
			}
		}
	}
	push := func(b []byte) func(*testing.T, *pool.Pool, *plain) {
		return func(t *testing.T, p *pool.Pool, like *plain) {
			t.Helper()
			if got, want := p.Push(b), like.push(b); got != want {
				t.Errorf("Push(%v): %d; want %d", b, got, want)
			}
		}
	}
	first, last := func(int) int { return 0 }, func(n int) int { return n - 1 }
	middle, none := func(n int) int { return n / 2 }, func(n int) int { return n }
	return []func(*testing.T, *pool.Pool, *plain){
		take(first), take(last), take(middle), take(none), double(first), double(last), double(middle), double(none),
		push(nil), push([]byte{1}), push([]byte("another one")),
	}
}

func TestP8_1Nil(t *testing.T) {
	var p *pool.Pool
	for range 2 {
		for _, b := range [][]byte{nil, {}, {1, 2}} {
			if err := p.Push(b); err != api.ErrNil {
				t.Errorf("Push(%v) to nil: %d; want ErrNil", b, err)
			}
		}
		for _, i := range append(outside(0), 0) {
			if got, err := p.Take(i); got != nil || err != api.ErrNil {
				t.Errorf("Take(%d) of nil: %v, %d; want nothing, ErrNil", i, got, err)
			}
			if err := p.Double(i); err != api.ErrNil {
				t.Errorf("Double(%d) of nil: %d; want ErrNil", i, err)
			}
			if got, is := p.Peek(i); got != nil || is {
				t.Errorf("Peek(%d) of nil: %v, %v; want nothing, false", i, got, is)
			}
		}
		if p.Len() != 0 || p.Fork() != nil {
			t.Errorf("of nil: %d, %v; want 0, nil", p.Len(), p.Fork())
		}
	}
}

// TestP8_1Everywhere makes strewn deeds, and holds the pool against a plain one.
func TestP8_1Everywhere(t *testing.T) {
	for seed := range uint64(60) {
		next := strewn(seed)
		p, like := pool.New(), &plain{}
		all := deeds()
		for range 300 {
			switch i := next()%(len(like.list)+3) - 1; next() % 5 {
			case 0, 1:
				b := bytes.Repeat([]byte{byte(next()), byte(next())}, next()%20)
				if got, want := p.Push(b), like.push(b); got != want {
					t.Errorf("Push(%v): %d; want %d", b, got, want)
				}
			case 2:
				if got, want := p.Double(i), like.double(i); got != want {
					t.Errorf("Double(%d) of %d: %d; want %d", i, len(like.list), got, want)
				}
			case 3:
				want, wantErr := like.take(i)
				if got, err := p.Take(i); err != wantErr || !bytes.Equal(got, want) {
					t.Errorf("Take(%d): %v, %d; want %v, %d", i, got, err, want, wantErr)
				}
			case 4:
				all[next()%len(all)](t, p, like)
			}
			check(t, "so far", p, like.list)
		}
	}
}

// TestWhatFollows: what is taken was pushed, and as often as it was pushed and doubled.
func TestWhatFollows(t *testing.T) {
	for seed := range uint64(30) {
		next := strewn(seed)
		p, under := pool.New(), map[string]int{}
		for n := range 2000 {
			switch i := next()%(p.Len()+4) - 2; next() % 4 {
			case 0, 1:
				b := []byte(fmt.Sprint("message ", n))
				if p.Push(b) == api.OK {
					under[string(b)]++
				}
			case 2:
				if b, is := p.Peek(i); p.Double(i) == api.OK {
					if !is {
						t.Errorf("Double(%d) of what Peek did not tell", i)
					}
					under[string(b)]++
				}
			case 3:
				b, err := p.Take(i)
				if err != api.OK {
					continue
				}
				if under[string(b)]--; under[string(b)] < 0 {
					t.Errorf("%q was taken more often than it was pushed and doubled", b)
				}
			}
		}
		for n := p.Len(); n > 0; n-- {
			b, _ := p.Take(next() % n)
			under[string(b)]--
		}
		for b, n := range under {
			if n != 0 {
				t.Errorf("%q: %d are left", b, n)
			}
		}
	}
}

// TestR1Plain: what New did not make is a pool of no messages.
func TestR1Plain(t *testing.T) {
	for _, d := range deeds() {
		var p pool.Pool
		check(t, "plain", &p, nil)
		check(t, "a plain one's fork", p.Fork(), nil)
		like := &plain{}
		d(t, &p, like)
		p.Push([]byte{4})
		like.push([]byte{4})
		d(t, &p, like)
		check(t, "plain, changed", &p, like.list)
	}
}

// TestR2Apart: what is done with one does not touch another one; a plain copy is another one.
func TestR2Apart(t *testing.T) {
	for n := range 40 {
		l := texts(n)
		for _, d := range deeds() {
			one := filled(t, l)
			two, three := *one, *one
			like, other := &plain{l}, &plain{l}
			d(t, one, like)
			check(t, "a plain copy, the other one changed", &two, l)
			two.Push([]byte("two"))
			other.push([]byte("two"))
			d(t, &two, other)
			check(t, "what was copied, changed, its copy changed", one, like.list)
			check(t, "a plain copy, changed", &two, other.list)
			check(t, "another plain copy", &three, l)
			*one = three
			one.Push([]byte("one"))
			check(t, "what was set back, changed", one, append(slices.Clone(l), []byte("one")))
			check(t, "what it was set back to", &three, l)
		}
	}
}

// TestR2Together: forks and copies may be changed at the same time.
func TestR2Together(t *testing.T) {
	l := texts(30)
	p := filled(t, l)
	p.Take(29)
	p.Take(3)
	l = slices.Concat(l[:3], l[4:29])
	var jobs sync.WaitGroup
	for i := range 12 {
		fork, plainCopy := p.Fork(), *p
		jobs.Go(func() {
			for _, one := range []*pool.Pool{fork, &plainCopy} {
				like := &plain{slices.Clone(l)}
				for k := range 20 {
					for _, d := range deeds()[(i+k)%4:] {
						d(t, one, like)
					}
				}
				check(t, "beside others", one, like.list)
			}
		})
	}
	jobs.Wait()
	check(t, "what was forked and copied", p, l)
}

// TestR2Reading: who only asks changes nothing.
func TestR2Reading(t *testing.T) {
	l := texts(20)
	p := filled(t, l)
	for range 3 {
		p.Fork()
		check(t, "asked again", p, l)
	}
}

// TestR3In: what is handed in is not changed and not kept, nor is the room behind its end.
func TestR3In(t *testing.T) {
	for _, n := range []int{0, 1, 2, 31, 32, 33, 1000, 70000} {
		room := append(bytes.Repeat([]byte{5}, n), 1, 2, 3)
		kept := slices.Clone(room)
		want := [][]byte{kept[:n], {8}, kept[:n]}
		p := pool.New()
		p.Push(room[:n])
		p.Push([]byte{8})
		p.Double(0)
		if !bytes.Equal(room, kept) {
			t.Errorf("Push of %d bytes changed them, or the room behind", n)
		}
		fork := p.Fork()
		spoil(room)
		check(t, "what was pushed, spoilt", p, want)
		check(t, "what was pushed, spoilt, of a fork", fork, want)
		p.Push(room[:n])
		fork.Push(room[:n])
		was := slices.Clone(room[:n])
		spoil(room)
		check(t, "pushed twice from the same room", p, append(want, was))
		check(t, "pushed to a fork from the same room", fork, append(want, was))
	}
}

// TestR3Out: who writes into what is told, and into the room behind its end, changes nothing else.
func TestR3Out(t *testing.T) {
	for _, n := range []int{0, 1, 2, 31, 32, 33, 1000, 70000} {
		b := bytes.Repeat([]byte{5}, n)
		want := [][]byte{b, {8}, b, b}
		p := pool.New()
		p.Push(b)
		p.Push([]byte{8})
		p.Double(0)
		p.Double(2)
		fork := p.Fork()
		told, _ := p.Peek(0)
		again, _ := p.Peek(0)
		spoil(told)
		if !bytes.Equal(again, b) {
			t.Errorf("of %d bytes: what Peek told ahead of that was changed", n)
		}
		check(t, "what Peek told, spoilt", p, want)
		taken, _ := p.Take(0)
		if !bytes.Equal(taken, b) {
			t.Errorf("of %d bytes: Take tells others, as what Peek told was spoilt", n)
		}
		spoil(taken)
		check(t, "what Take told, spoilt", p, want[1:])
		check(t, "what Take and Peek told, spoilt, of a fork", fork, want)
		taken, _ = fork.Take(3)
		kept := slices.Clone(taken)
		spoil(again)
		fork.Push([]byte{1})
		fork.Take(0)
		if !bytes.Equal(taken, kept) {
			t.Errorf("of %d bytes: what was taken changed later", n)
		}
	}
}
