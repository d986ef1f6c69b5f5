package octet_test

import (
	"bytes"
	"encoding/binary"
	"math"
	"slices"
	"sync"
	"testing"

	"petasos/api"
	"petasos/octet"
)

const mostText = 65535

// strewn gives numbers from all over, the same ones each time.
func strewn(seed uint64) func() uint64 {
	x := seed
	return func() uint64 {
		x = x*6364136223846793005 + 1442695040888963407
		return x ^ x>>29
	}
}

// row is n bytes, none like its neighbour.
func row(n int) []byte {
	b := make([]byte, n)
	for i := range b {
		b[i] = byte(i*7 + i>>8 + 1)
	}
	return b
}

// wide is how many bytes the chapter lets a number have.
func wide(n int) int {
	switch {
	case n < 1:
		return 1
	case n > 8:
		return 8
	}
	return n
}

// number is the lowest bytes of v, as the library lays them.
func number(v uint64, n int) []byte {
	return binary.BigEndian.AppendUint64(nil, v)[8-wide(n):]
}

// text is b behind two bytes of how many it has.
func text(b []byte) []byte {
	if len(b) > mostText {
		b = b[:mostText]
	}
	return append([]byte{byte(len(b) / 256), byte(len(b) % 256)}, b...)
}

// same holds bytes against those that there should be, and tells long ones by where they differ.
func same(t *testing.T, what string, got, want []byte) {
	t.Helper()
	if bytes.Equal(got, want) {
		return
	}
	if len(want) <= 32 && len(got) <= 32 {
		t.Errorf("%s: %v; want %v", what, got, want)
		return
	}
	i := 0
	for i < len(got) && i < len(want) && got[i] == want[i] {
		i++
	}
	t.Errorf("%s: %d bytes; want %d; they differ at %d", what, len(got), len(want), i)
}

// state holds a reader's Err and Left against what they should be.
func state(t *testing.T, what string, r *octet.Reader, err api.Errno, left int) {
	t.Helper()
	if r.Err() != err || r.Left() != left {
		t.Errorf("%s: Err %d, Left %d; want %d, %d", what, r.Err(), r.Left(), err, left)
	}
}

// short holds a reader for one that came to its end, whatever is read on.
func short(t *testing.T, what string, r *octet.Reader) {
	t.Helper()
	state(t, what, r, api.ErrShort, 0)
	for n := -1; n <= 9; n++ {
		if got := r.Get(n); got != 0 {
			t.Errorf("%s: Get(%d): %d", what, n, got)
		}
	}
	if got := r.Text(); len(got) != 0 {
		t.Errorf("%s: Text: %v", what, got)
	}
	state(t, what+", read on", r, api.ErrShort, 0)
}

func TestP3_1Put(t *testing.T) {
	for _, r := range []struct {
		v    uint64
		n    int
		want []byte
	}{
		{258, 2, []byte{1, 2}},
		{258, 1, []byte{2}},
		{258, 3, []byte{0, 1, 2}},
		{0, 1, []byte{0}},
		{0, 8, []byte{0, 0, 0, 0, 0, 0, 0, 0}},
		{255, 1, []byte{255}},
		{256, 1, []byte{0}},
		{math.MaxUint64, 1, []byte{255}},
		{math.MaxUint64, 8, []byte{255, 255, 255, 255, 255, 255, 255, 255}},
		{0x0102030405060708, 1, []byte{8}},
		{0x0102030405060708, 2, []byte{7, 8}},
		{0x0102030405060708, 3, []byte{6, 7, 8}},
		{0x0102030405060708, 4, []byte{5, 6, 7, 8}},
		{0x0102030405060708, 5, []byte{4, 5, 6, 7, 8}},
		{0x0102030405060708, 6, []byte{3, 4, 5, 6, 7, 8}},
		{0x0102030405060708, 7, []byte{2, 3, 4, 5, 6, 7, 8}},
		{0x0102030405060708, 8, []byte{1, 2, 3, 4, 5, 6, 7, 8}},
		{0x0102030405060708, 0, []byte{8}},
		{0x0102030405060708, -1, []byte{8}},
		{0x0102030405060708, math.MinInt, []byte{8}},
		{0x0102030405060708, 9, []byte{1, 2, 3, 4, 5, 6, 7, 8}},
		{0x0102030405060708, 64, []byte{1, 2, 3, 4, 5, 6, 7, 8}},
		{0x0102030405060708, math.MaxInt, []byte{1, 2, 3, 4, 5, 6, 7, 8}},
	} {
		var w octet.Writer
		w.Put(r.v, r.n)
		if got := w.Bytes(); !bytes.Equal(got, r.want) {
			t.Errorf("Put(%#x, %d): %v; want %v", r.v, r.n, got, r.want)
		}
	}
}

func TestP3_1Text(t *testing.T) {
	for _, b := range [][]byte{nil, {}, {9}, {1, 2, 3}, row(62), row(63), row(255), row(256), row(257), row(mostText - 1), row(mostText)} {
		var w octet.Writer
		w.Text(b)
		same(t, "Text", w.Bytes(), text(b))
	}
	for _, n := range []int{mostText + 1, mostText + 2, 2 * mostText, 3<<16 + 5} {
		var w octet.Writer
		b := row(n)
		w.Text(b)
		got := w.Bytes()
		if len(got) != 2+mostText || got[0] != 255 || got[1] != 255 {
			t.Fatalf("Text of %d bytes: %d, that begin with %v", n, len(got), got[:2])
		}
		same(t, "a longer text", got[2:], b[:mostText])
		w.Put(7, 1)
		same(t, "behind a longer text", w.Bytes()[2+mostText:], []byte{7})
	}
}

// TestP3_1Bytes holds long rows of puts against the bytes of each, behind one another; Bytes takes nothing away.
func TestP3_1Bytes(t *testing.T) {
	for seed := range uint64(20) {
		next := strewn(seed)
		var w octet.Writer
		var want []byte
		same(t, "none", w.Bytes(), nil)
		for range 400 {
			if next()%4 == 0 {
				b := row(int(next() % (1 << (next() % 10))))
				w.Text(b)
				want = append(want, text(b)...)
			} else {
				v, n := next(), int(next()%12)-2
				w.Put(v, n)
				want = append(want, number(v, n)...)
			}
			same(t, "so far", w.Bytes(), want)
		}
		same(t, "asked again", w.Bytes(), want)
	}
}

// TestP3_1Lengths goes byte by byte, so that no length is passed over.
func TestP3_1Lengths(t *testing.T) {
	for n := 1; n <= 8; n++ {
		var w octet.Writer
		var want []byte
		for i := range uint64(600) {
			v := i * 0x9e3779b97f4a7c15
			w.Put(v, n)
			want = append(want, number(v, n)...)
			same(t, "so long", w.Bytes(), want)
		}
	}
}

func TestP3_1Nil(t *testing.T) {
	var w *octet.Writer
	for n := -1; n <= 9; n++ {
		w.Put(258, n)
	}
	w.Text([]byte{1, 2})
	w.Text(row(mostText + 1))
	w.Text(nil)
	if got := w.Bytes(); len(got) != 0 {
		t.Errorf("Bytes of nil: %v", got)
	}
}

func TestP3_2Get(t *testing.T) {
	b := []byte{1, 2, 3, 4, 5, 6, 7, 8, 9, 10}
	for _, r := range []struct {
		n    int
		want uint64
		left int
	}{
		{1, 1, 9}, {2, 0x0102, 8}, {3, 0x010203, 7}, {4, 0x01020304, 6}, {5, 0x0102030405, 5}, {6, 0x010203040506, 4},
		{7, 0x01020304050607, 3}, {8, 0x0102030405060708, 2},
		{0, 1, 9}, {-1, 1, 9}, {math.MinInt, 1, 9}, {9, 0x0102030405060708, 2}, {64, 0x0102030405060708, 2},
		{math.MaxInt, 0x0102030405060708, 2},
	} {
		read := octet.Read(b)
		state(t, "ahead of all", read, api.OK, len(b))
		if got := read.Get(r.n); got != r.want {
			t.Errorf("Get(%d): %#x; want %#x", r.n, got, r.want)
		}
		state(t, "behind a Get", read, api.OK, r.left)
		if got := read.Get(2); got != uint64(b[10-r.left])<<8+uint64(b[11-r.left]) {
			t.Errorf("Get behind Get(%d): %#x", r.n, got)
		}
		state(t, "behind two", read, api.OK, r.left-2)
	}
	high := octet.Read([]byte{255, 255, 255, 255, 255, 255, 255, 255})
	if got := high.Get(8); got != math.MaxUint64 {
		t.Errorf("Get(8) of the highest: %#x", got)
	}
	state(t, "all was read", high, api.OK, 0)
}

func TestP3_2Text(t *testing.T) {
	for _, n := range []int{0, 1, 2, 255, 256, 257, mostText - 1, mostText} {
		b := row(n)
		r := octet.Read(append(text(b), 77, 78))
		same(t, "Text", r.Text(), b)
		state(t, "behind a Text", r, api.OK, 2)
		if got := r.Get(2); got != 77*256+78 {
			t.Errorf("Get behind a Text of %d bytes: %d", n, got)
		}
		state(t, "behind both", r, api.OK, 0)
	}
	r := octet.Read([]byte{0, 0, 0, 1, 5, 0, 2, 6, 7})
	for _, want := range [][]byte{nil, {5}, {6, 7}} {
		same(t, "texts behind each other", r.Text(), want)
	}
	state(t, "behind all texts", r, api.OK, 0)
}

func TestP3_2Short(t *testing.T) {
	for n := -1; n <= 9; n++ {
		for have := range wide(n) {
			r := octet.Read(row(have))
			state(t, "ahead of a Get", r, api.OK, have)
			if got := r.Get(n); got != 0 {
				t.Errorf("Get(%d) of %d bytes: %d", n, have, got)
			}
			short(t, "a number ends too early", r)
		}
	}
	for _, b := range [][]byte{nil, {}, {0}, {3}, {0, 1}, {0, 3, 1, 2}, {1, 0, 1}, {255, 255}, text(row(mostText))[:mostText+1]} {
		r := octet.Read(b)
		state(t, "ahead of a Text", r, api.OK, len(b))
		if got := r.Text(); len(got) != 0 {
			t.Errorf("Text of %d bytes: %d", len(b), len(got))
		}
		short(t, "a text ends too early", r)
	}
	for behind := range 7 {
		r := octet.Read(append([]byte{0, 1, 9, 8}, row(behind)...))
		same(t, "a text", r.Text(), []byte{9})
		if got := r.Get(1); got != 8 {
			t.Errorf("Get behind a text: %d", got)
		}
		state(t, "ahead of the end", r, api.OK, behind)
		if got := r.Get(7); got != 0 {
			t.Errorf("Get(7) of %d bytes: %d", behind, got)
		}
		short(t, "the end", r)
	}
}

// TestP3_2Again: nothing but a read that finds too little makes a reader short, and nothing heals it.
func TestP3_2Again(t *testing.T) {
	r := octet.Read([]byte{1, 2, 3})
	r.Get(3)
	for range 3 {
		state(t, "all was read", r, api.OK, 0)
	}
	r.Get(1)
	for range 3 {
		short(t, "more than all", r)
	}
	r = octet.Read([]byte{0, 200, 5, 6, 7})
	r.Text()
	short(t, "a text that is cut, its bytes are not read either", r)
}

func TestP3_2Nil(t *testing.T) {
	var r *octet.Reader
	for range 2 {
		state(t, "nil", r, api.ErrNil, 0)
		for n := -1; n <= 9; n++ {
			if got := r.Get(n); got != 0 {
				t.Errorf("Get(%d) of nil: %d", n, got)
			}
		}
		if got := r.Text(); len(got) != 0 {
			t.Errorf("Text of nil: %v", got)
		}
	}
	for _, b := range [][]byte{nil, {}} {
		if r = octet.Read(b); r == nil {
			t.Fatal("Read of nothing: nil")
		}
		state(t, "nothing", r, api.OK, 0)
	}
}

// TestWhatFollows: what is written is read.
func TestWhatFollows(t *testing.T) {
	type item struct {
		v uint64
		n int
		b []byte // a text, if n is 99
	}
	for seed := range uint64(50) {
		next := strewn(seed)
		var w octet.Writer
		var items []item
		for range 100 {
			x := item{v: next(), n: int(next()%14) - 3}
			if next()%3 == 0 {
				x = item{n: 99, b: row(int(next() % (1 << (next() % 12))))}
			}
			items = append(items, x)
			if x.n == 99 {
				w.Text(x.b)
			} else {
				w.Put(x.v, x.n)
			}
		}
		all := w.Bytes()
		r, left := octet.Read(all), len(all)
		for _, x := range items {
			if x.n == 99 {
				same(t, "a text", r.Text(), x.b)
				left -= 2 + len(x.b)
			} else {
				want := x.v << (64 - 8*wide(x.n)) >> (64 - 8*wide(x.n))
				if got := r.Get(x.n); got != want {
					t.Errorf("Get(%d): %#x; want %#x", x.n, got, want)
				}
				left -= wide(x.n)
			}
			state(t, "what is left", r, api.OK, left)
		}
		if left != 0 {
			t.Errorf("%d bytes are left of what was written", left)
		}
		short(t, "behind all", readAll(all))
	}
}

// readAll is a reader that went over the end of b.
func readAll(b []byte) *octet.Reader {
	r := octet.Read(b)
	for range len(b) + 1 {
		r.Get(1)
	}
	return r
}

// TestR1Plain: a Reader that Read did not make has nothing.
func TestR1Plain(t *testing.T) {
	var r, read octet.Reader
	state(t, "plain", &r, api.OK, 0)
	if got := r.Get(1); got != 0 {
		t.Errorf("Get of a plain one: %d", got)
	}
	short(t, "plain, read", &r)
	if got := read.Text(); len(got) != 0 {
		t.Errorf("Text of a plain one: %v", got)
	}
	short(t, "plain, its text read", &read)
}

// TestR2Apart: what is done with one Writer or Reader does not touch another one; a plain copy is another one.
func TestR2Apart(t *testing.T) {
	for n := range 200 {
		var first octet.Writer
		for i := range n {
			first.Put(uint64(i), 1)
		}
		want := first.Bytes()
		second, third := first, first
		first.Put(1, 8)
		second.Put(2, 8)
		first.Text(row(100))
		second.Text(row(90))
		same(t, "the first", first.Bytes(), slices.Concat(want, number(1, 8), text(row(100))))
		same(t, "a copy, written on", second.Bytes(), slices.Concat(want, number(2, 8), text(row(90))))
		same(t, "a copy", third.Bytes(), want)
		first = third
		first.Put(3, 8)
		same(t, "the first, set back", first.Bytes(), slices.Concat(want, number(3, 8)))
		same(t, "a copy, the first one set back", third.Bytes(), want)
	}

	one := octet.Read([]byte{1, 0, 2, 8, 9})
	one.Get(1)
	other := *one
	same(t, "one", one.Text(), []byte{8, 9})
	one.Get(1)
	state(t, "another", &other, api.OK, 4)
	same(t, "another", other.Text(), []byte{8, 9})
	state(t, "another, read", &other, api.OK, 0)
	state(t, "one, read on", one, api.ErrShort, 0)
}

// TestR2Together: copies may be written on, and read on, at the same time.
func TestR2Together(t *testing.T) {
	var w octet.Writer
	w.Text(row(150))
	read := octet.Read(w.Bytes())
	var jobs sync.WaitGroup
	for i := range uint64(20) {
		mine, his := w, *read
		jobs.Go(func() {
			mine.Put(i, 8)
			mine.Text(row(int(i)))
			same(t, "a copy", mine.Bytes(), slices.Concat(text(row(150)), number(i, 8), text(row(int(i)))))
			same(t, "a copied reader", his.Text(), row(150))
		})
	}
	jobs.Wait()
	same(t, "what was copied", w.Bytes(), text(row(150)))
	state(t, "what was copied", read, api.OK, 152)
}

// TestR3 writes into what was handed in, and into what was handed out, with the room behind the ends.
func TestR3(t *testing.T) {
	spoil := func(b []byte) {
		b = b[:cap(b)]
		for i := range b {
			b[i] = 0xee
		}
	}
	for _, n := range []int{0, 1, 5, 61, 62, 63, 64, 65, 126, 127, 200, 1000} {
		room := append(row(n), 1, 2, 3)
		kept := slices.Clone(room)
		var w octet.Writer
		w.Text(room[:n])
		same(t, "what is handed to Text", room, kept)
		spoil(room)
		same(t, "Bytes, what was handed to Text spoilt", w.Bytes(), text(row(n)))
		spoil(w.Bytes())
		same(t, "Bytes, spoilt ahead of that", w.Bytes(), text(row(n)))
		w.Put(9, 2)
		same(t, "Bytes, written on", w.Bytes(), append(text(row(n)), 0, 9))

		room = append(text(row(n)), 0, 3, 4, 5, 6, 1, 2, 3)
		kept = slices.Clone(room)
		r := octet.Read(room[:n+7])
		got := r.Text()
		same(t, "what is handed to Read", room, kept)
		spoil(room)
		same(t, "a text, what was handed to Read spoilt", got, row(n))
		spoil(got)
		next := r.Text()
		same(t, "the next text, all else spoilt", next, []byte{4, 5, 6})
		state(t, "the room behind the end is not read", r, api.OK, 0)
	}
	b := []byte{0, 2, 4, 5, 9}
	r := octet.Read(b)
	one := *r
	spoil(r.Text())
	same(t, "a copy's text, the other's spoilt", one.Text(), []byte{4, 5})
	if one.Get(1) != 9 {
		t.Error("a text had room behind its end, which is the reader's")
	}
}

// TestMany writes more numbers than the greatest message has, and reads them.
func TestMany(t *testing.T) {
	const n = 200000
	var w octet.Writer
	for i := range uint64(n) {
		w.Put(i, 4)
	}
	r := octet.Read(w.Bytes())
	for i := range uint64(n) {
		if got := r.Get(4); got != i {
			t.Fatalf("the number %d: %d", i, got)
		}
	}
	state(t, "all", r, api.OK, 0)
}
