package dice_test

import (
	"math"
	"math/big"
	"slices"
	"sync"
	"testing"

	"petasos/dice"
)

const stride = 0x9e3779b97f4a7c15

// plain is the chapter's dice by numbers that never go round by themselves.
type plain struct{ state *big.Int }

func newPlain(seed uint64) *plain { return &plain{new(big.Int).SetUint64(seed)} }

// whole is 2^bits.
func whole(bits uint) *big.Int { return new(big.Int).Lsh(big.NewInt(1), bits) }

func (p *plain) step() uint64 {
	number := func(v uint64) *big.Int { return new(big.Int).SetUint64(v) }
	round := func(x *big.Int) *big.Int { return x.Mod(x, whole(64)) }
	mix := func(x *big.Int, bits uint) *big.Int { return new(big.Int).Xor(x, new(big.Int).Quo(x, whole(bits))) }
	p.state = round(new(big.Int).Add(p.state, number(stride)))
	x := mix(p.state, 30)
	x = mix(round(x.Mul(x, number(0xbf58476d1ce4e5b9))), 27)
	x = mix(round(x.Mul(x, number(0x94d049bb133111eb))), 31)
	return x.Uint64()
}

func (p *plain) roll(n int) int {
	if n < 1 {
		return 0
	}
	x := new(big.Int).SetUint64(p.step())
	return int(x.Mod(x, big.NewInt(int64(n))).Int64())
}

// seeds are edges, such as go round at once or soon, and others.
func seeds() []uint64 {
	back := ^uint64(stride) + 1 // the state is 0 behind one step of it
	return []uint64{
		0, 1, 2, 3, 42, 1234567, 1 << 26, 1<<27 - 1, 1 << 29, 1 << 30, 1<<31 - 1, 1 << 31, 1<<32 - 1, 1 << 32, 1<<32 + 1,
		1<<63 - 1, 1 << 63, 1<<63 + 1, math.MaxUint64 - 1, math.MaxUint64,
		stride, stride - 1, stride + 1, back - 1, back, back + 1, 2 * back, 3*back - 1, 4*back + 1, 1000 * back,
		0x0123456789abcdef, 0xfedcba9876543210, 0xaaaaaaaaaaaaaaaa, 0x5555555555555555,
	}
}

// counts are such as Roll may tell numbers of.
func counts() []int {
	return []int{1, 2, 3, 4, 5, 6, 7, 10, 32, 64, 100, 255, 256, 1000, 10000, 65536, 1<<31 - 1, 1 << 31, 1<<32 - 1, 1 << 32, 1<<32 + 1,
		1 << 53, 1<<62 - 1, 1 << 62, 1<<62 + 1, math.MaxInt - 1, math.MaxInt}
}

// none are such as there is no number below of.
func none() []int {
	return []int{0, -1, -2, -6, -64, -1 << 31, -1<<31 - 1, -1 << 32, -1<<32 + 1, -1 << 62, math.MinInt + 1, math.MinInt}
}

// steps tells n steps of d.
func steps(d *dice.Dice, n int) []uint64 {
	var l []uint64
	for range n {
		l = append(l, d.Step())
	}
	return l
}

// plainSteps tells the n steps that dice of a seed should tell, but for the first ones.
func plainSteps(seed uint64, skip, n int) []uint64 {
	p := newPlain(seed)
	var l []uint64
	for range skip + n {
		l = append(l, p.step())
	}
	return l[skip:]
}

// at holds d for dice of a seed that made so many steps, and leaves it as it is.
func at(t *testing.T, what string, d *dice.Dice, seed uint64, made int) {
	t.Helper()
	if got, want := steps(d.Fork(), 4), plainSteps(seed, made, 4); !slices.Equal(got, want) {
		t.Errorf("%s: of the seed %#x, behind %d steps: %#x; want %#x", what, seed, made, got, want)
	}
}

// TestP7_1Step holds steps against numbers that were worked out elsewhere.
func TestP7_1Step(t *testing.T) {
	for _, r := range []struct {
		what string
		seed uint64
		want []uint64
	}{
		{"0", 0, []uint64{0xe220a8397b1dcdaf, 0x6e789e6aa1b965f4, 0x06c45d188009454f, 0xf88bb8a8724c81ec, 0x1b39896a51a8749b}},
		{"1", 1, []uint64{0x910a2dec89025cc1, 0xbeeb8da1658eec67, 0xf893a2eefb32555e, 0x71c18690ee42c90b, 0x71bb54d8d101b5b9}},
		{"2", 2, []uint64{0x975835de1c9756ce, 0xbfc846100bfc1e42, 0x987bbcbfdd7e532f, 0xc3f2827affe7f664, 0x4fc446b53f17fb29}},
		{"some number", 1234567, []uint64{6457827717110365317, 3203168211198807973, 9817491932198370423, 4593380528125082431, 16408922859458223821}},
		{"what 32 bits do not hold", 1 << 32, []uint64{0xc42c5a1aa3820138, 0x37ad5fdd5756bd3d, 0xaf57978921422ad5, 0x7297d929b3ebaef5, 0x93afb3ec0ca2fcef}},
		{"the highest bit", 1 << 63, []uint64{0x481ec0a212a9f3db, 0xc46fa638a6309012, 0x61a685ffc80a8140, 0x592e268383e356f9, 0x0c8881ee746884d3}},
		{"the greatest", math.MaxUint64, []uint64{0xe4d971771b652c20, 0xe99ff867dbf682c9, 0x382ff84cb27281e9, 0x6d1db36ccba982d2, 0xb4a0472e578069ae}},
		{"round to 0", 0x61c8864680b583eb, []uint64{0, 0xe220a8397b1dcdaf, 0x6e789e6aa1b965f4, 0x06c45d188009454f, 0xf88bb8a8724c81ec}},
		{"not yet round", 0x61c8864680b583ea, []uint64{0xb4d055fcf2cbbd7b, 0xe4d971771b652c20, 0xe99ff867dbf682c9, 0x382ff84cb27281e9, 0x6d1db36ccba982d2}},
		{"twice round to 0", 0xc3910c8d016b07d6, []uint64{0x336503c6b835bec0, 0, 0xe220a8397b1dcdaf, 0x6e789e6aa1b965f4, 0x06c45d188009454f}},
	} {
		if got := steps(dice.New(r.seed), len(r.want)); !slices.Equal(got, r.want) {
			t.Errorf("%s: %#x; want %#x", r.what, got, r.want)
		}
	}
}

// TestP7_1Everywhere holds rows of steps against what numbers that never go round tell.
func TestP7_1Everywhere(t *testing.T) {
	all := seeds()
	for bit := range 64 {
		all = append(all, 1<<bit, 1<<bit-1, ^uint64(1<<bit))
	}
	for _, seed := range all {
		if got, want := steps(dice.New(seed), 50), plainSteps(seed, 0, 50); !slices.Equal(got, want) {
			t.Errorf("the seed %#x: %#x; want %#x", seed, got, want)
		}
	}
	d, p := dice.New(7), newPlain(7)
	for i := range 20000 {
		if got, want := d.Step(), p.step(); got != want {
			t.Fatalf("the step %d of the seed 7: %#x; want %#x", i, got, want)
		}
	}
}

// TestP7_1State: a step makes the state greater by the same number, round the end: so dice go on as those of that seed.
func TestP7_1State(t *testing.T) {
	for _, seed := range seeds() {
		d := dice.New(seed)
		for i := range uint64(30) {
			other := dice.New(seed + i*stride)
			if got, want := steps(d.Fork(), 5), steps(other, 5); !slices.Equal(got, want) {
				t.Errorf("the seed %#x, behind %d steps: %#x; want %#x", seed, i, got, want)
			}
			d.Step()
		}
	}
}

// TestP7_1Roll holds rolls against numbers that were worked out elsewhere.
func TestP7_1Roll(t *testing.T) {
	for _, r := range []struct {
		seed uint64
		n    int
		want []int
	}{
		{0, 1, []int{0, 0, 0, 0, 0, 0, 0, 0}},
		{0, 2, []int{1, 0, 1, 0, 1, 0, 1, 0}},
		{0, 3, []int{1, 0, 1, 1, 1, 0, 2, 2}},
		{0, 6, []int{1, 0, 1, 4, 1, 0, 5, 2}},
		{0, 10, []int{5, 0, 9, 4, 7, 0, 3, 0}},
		{0, 32, []int{15, 20, 15, 12, 27, 10, 1, 28}},
		{0, 1000, []int{535, 700, 679, 444, 747, 90, 913, 940}},
		{0, math.MaxInt, []int{7070836379803831728, 7960286522194355700, 487617019471545679, 8686239339925766637, 1961750202426094747}},
		{1, 2, []int{1, 1, 0, 1, 1, 0, 1, 1}},
		{1, 3, []int{2, 1, 0, 2, 0, 2, 0, 0}},
		{1, 1000, []int{465, 519, 590, 235, 761, 48, 45, 533}},
		{1, math.MaxInt, []int{1227844342346046658, 4533873174211652712, 8688467253428114783, 8196980753821780235, 8195237237126968761}},
		{math.MaxUint64, 3, []int{2, 0, 1, 0, 0, 1, 1, 2}},
		{math.MaxUint64, 10, []int{6, 9, 1, 2, 6, 5, 5, 6}},
		{math.MaxUint64, math.MaxInt, []int{7266964230113668129, 7611075020235113162, 4048727598324417001, 7862637804313477842}},
		{0x61c8864680b583eb, 10, []int{0, 5, 0, 9, 4, 7, 0, 3, 0}},
		{0x61c8864680b583eb, math.MaxInt, []int{0, 7070836379803831728, 7960286522194355700, 487617019471545679}},
	} {
		d := dice.New(r.seed)
		for i, want := range r.want {
			if got := d.Roll(r.n); got != want {
				t.Errorf("the seed %#x: Roll(%d), the %dth: %d; want %d", r.seed, r.n, i, got, want)
			}
		}
		at(t, "rolled", d, r.seed, len(r.want))
	}
}

// TestP7_1RollEverywhere rolls each count of each seed, one step each, and holds that against plain numbers.
func TestP7_1RollEverywhere(t *testing.T) {
	for _, seed := range seeds() {
		d, p := dice.New(seed), newPlain(seed)
		for i, n := range counts() {
			got, want := d.Roll(n), p.roll(n)
			if got != want || got < 0 || got >= n {
				t.Errorf("the seed %#x, behind %d rolls: Roll(%d): %d; want %d", seed, i, n, got, want)
			}
		}
		at(t, "rolled", d, seed, len(counts()))
	}
	d, p := dice.New(9), newPlain(9)
	for n := 1; n <= 3000; n++ {
		if got, want := d.Roll(n), p.roll(n); got != want {
			t.Fatalf("Roll(%d): %d; want %d", n, got, want)
		}
	}
}

// TestP7_1RollOne: of 1 there is only 0, but the step is made.
func TestP7_1RollOne(t *testing.T) {
	for _, seed := range seeds() {
		d := dice.New(seed)
		for i := range 10 {
			if got := d.Roll(1); got != 0 {
				t.Errorf("the seed %#x: Roll(1): %d", seed, got)
			}
			at(t, "Roll(1)", d, seed, i+1)
		}
	}
}

// TestP7_1RollNone: of n below 1 it is 0, and no step is made, neither at first nor later.
func TestP7_1RollNone(t *testing.T) {
	for _, seed := range seeds() {
		d := dice.New(seed)
		for made := range 3 {
			for _, n := range none() {
				if got := d.Roll(n); got != 0 {
					t.Errorf("the seed %#x: Roll(%d): %d", seed, n, got)
				}
			}
			at(t, "Roll of none", d, seed, made)
			d.Step()
		}
	}
}

// TestP7_1Mixed makes steps and rolls in turn: a roll is a step, too.
func TestP7_1Mixed(t *testing.T) {
	for _, seed := range seeds() {
		d, p := dice.New(seed), newPlain(seed)
		all := append(counts(), none()...)
		for i := range 200 {
			n := all[(i*7+int(seed%11))%len(all)]
			if i%3 == 0 {
				if got, want := d.Step(), p.step(); got != want {
					t.Errorf("the seed %#x, the deed %d: Step: %#x; want %#x", seed, i, got, want)
				}
			} else if got, want := d.Roll(n), p.roll(n); got != want {
				t.Errorf("the seed %#x, the deed %d: Roll(%d): %d; want %d", seed, i, n, got, want)
			}
		}
	}
}

// TestP7_1Fork goes on with one while the other one is not, and the other way round.
func TestP7_1Fork(t *testing.T) {
	for _, seed := range seeds() {
		for _, made := range []int{0, 1, 2, 17} {
			first := dice.New(seed)
			steps(first, made)
			second := first.Fork()
			if first == second {
				t.Fatalf("the seed %#x: the fork is the same one", seed)
			}
			at(t, "what was forked", first, seed, made)
			at(t, "a fork", second, seed, made)

			steps(first, 3)
			first.Roll(6)
			at(t, "what was forked, rolled", first, seed, made+4)
			at(t, "a fork, the other one rolled", second, seed, made)

			third := second.Fork().Fork()
			third.Roll(6)
			steps(second, 9)
			second.Roll(0)
			at(t, "a fork, rolled", second, seed, made+9)
			at(t, "what was forked, its fork rolled", first, seed, made+4)
			at(t, "a fork's fork's fork, rolled", third, seed, made+1)
		}
	}
}

func TestP7_1Nil(t *testing.T) {
	var d *dice.Dice
	for range 2 {
		for _, n := range append(counts(), none()...) {
			if got := d.Roll(n); got != 0 {
				t.Errorf("Roll(%d) of nil: %d", n, got)
			}
		}
		if got := d.Step(); got != 0 {
			t.Errorf("Step of nil: %#x", got)
		}
		if got := d.Fork(); got != nil {
			t.Errorf("Fork of nil: %v", got)
		}
	}
	for _, seed := range seeds() {
		if dice.New(seed) == nil {
			t.Errorf("New(%#x): nil", seed)
		}
	}
}

// TestWhatFollows: the same seed rolls the same, whatever other dice do in between; another seed another.
func TestWhatFollows(t *testing.T) {
	of := func(seed uint64, between func()) []int {
		d := dice.New(seed)
		var l []int
		for _, n := range counts() {
			l = append(l, d.Roll(n))
			between()
		}
		return l
	}
	other := dice.New(99)
	var found [][]int
	for _, seed := range seeds() {
		first := of(seed, func() {})
		second := of(seed, func() { other.Step(); dice.New(seed).Roll(6) })
		if !slices.Equal(first, second) {
			t.Errorf("the seed %#x: %v, and then %v", seed, first, second)
		}
		if slices.ContainsFunc(found, func(l []int) bool { return slices.Equal(l, first) }) {
			t.Errorf("the seed %#x rolls as another one", seed)
		}
		found = append(found, first)
	}
}

// TestR1Plain: what New did not make has the state 0.
func TestR1Plain(t *testing.T) {
	var one, two, three dice.Dice
	at(t, "plain", &one, 0, 0)
	for _, n := range none() {
		if got := two.Roll(n); got != 0 {
			t.Errorf("Roll(%d) of a plain one: %d", n, got)
		}
	}
	if got := two.Roll(1000); got != 535 {
		t.Errorf("Roll(1000) of a plain one: %d", got)
	}
	if got := three.Step(); got != 0xe220a8397b1dcdaf {
		t.Errorf("Step of a plain one: %#x", got)
	}
}

// TestR2Apart: what is done with one does not touch another one; a plain copy is another one.
func TestR2Apart(t *testing.T) {
	one := dice.New(5)
	steps(one, 3)
	two := *one
	steps(one, 4)
	at(t, "a plain copy, the other one rolled", &two, 5, 3)
	two.Roll(9)
	at(t, "what was copied, its copy rolled", one, 5, 7)
	at(t, "a plain copy, rolled", &two, 5, 4)
	*one = two
	steps(one, 2)
	at(t, "what was set back", one, 5, 6)
	at(t, "what it was set back to", &two, 5, 4)

	var jobs sync.WaitGroup
	for _, seed := range seeds() {
		fork := two.Fork()
		jobs.Go(func() {
			at(t, "beside others", dice.New(seed), seed, 0)
			steps(fork, 100)
			at(t, "a fork beside others", fork, 5, 104)
		})
	}
	jobs.Wait()
	at(t, "what was forked", &two, 5, 4)
}
