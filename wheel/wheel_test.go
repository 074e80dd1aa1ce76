package wheel_test

import (
	"cmp"
	"math"
	"math/rand"
	"slices"
	"testing"

	"sale/api"
	"sale/wheel"
)

// pair is a set of timers and what it must be, told in the plainest way. Each
// call is made of both, and all that the set tells is compared behind it.
type pair struct {
	t   *testing.T
	w   *wheel.Wheel
	now int
	at  map[int]int // the times of the timers that are set, by id
}

func newPair(t *testing.T, now int) *pair {
	t.Helper()
	p := &pair{t: t, w: wheel.New(now), now: now, at: map[int]int{}}
	if p.w == nil {
		t.Fatalf("New(%d) is nil", now)
	}
	p.look()
	return p
}

// dues are the timers that are set for a time up to this, in order.
func (p *pair) dues(to int) []api.Due {
	var list []api.Due
	for id, at := range p.at {
		if at <= to {
			list = append(list, api.Due{At: at, ID: id})
		}
	}
	slices.SortFunc(list, func(a, b api.Due) int {
		return cmp.Or(cmp.Compare(a.At, b.At), cmp.Compare(a.ID, b.ID))
	})
	return list
}

func (p *pair) look() {
	p.t.Helper()
	var want api.Due
	list := p.dues(math.MaxInt)
	if len(list) > 0 {
		want = list[0]
	}
	for range 2 { // neither call changes anything
		if d, ok := p.w.First(); d != want || ok != (len(list) > 0) {
			p.t.Fatalf("First() at %d = %v, %v, want %v of %d", p.now, d, ok, want, len(list))
		}
		if n := p.w.Size(); n != len(list) {
			p.t.Fatalf("Size() at %d = %d, want %d", p.now, n, len(list))
		}
	}
}

func (p *pair) set(id int, at int, want api.Errno) {
	p.t.Helper()
	if e := p.w.Set(id, at); e != want {
		p.t.Fatalf("Set(%d, %d) at %d = %d, want %d", id, at, p.now, e, want)
	}
	if want == api.OK {
		p.at[id] = at
	}
	p.look()
}

func (p *pair) unset(id int, want api.Errno) {
	p.t.Helper()
	if e := p.w.Unset(id); e != want {
		p.t.Fatalf("Unset(%d) at %d = %d, want %d", id, p.now, e, want)
	}
	if want == api.OK {
		delete(p.at, id)
	}
	p.look()
}

func (p *pair) advance(to int, want ...api.Due) []api.Due {
	p.t.Helper()
	l, e := p.w.Advance(to)
	if e != api.OK || !slices.Equal(l, want) {
		p.t.Fatalf("Advance(%d) at %d = %v, %d, want %v", to, p.now, l, e, want)
	}
	for _, d := range want {
		delete(p.at, d.ID)
	}
	p.now = to
	p.look()
	return l
}

func (p *pair) advanceBack(to int) {
	p.t.Helper()
	if l, e := p.w.Advance(to); l != nil || e != api.ErrArg {
		p.t.Fatalf("Advance(%d) at %d = %v, %d, want nil and ErrArg", to, p.now, l, e)
	}
	p.look()
}

func TestP6P7P8Example(t *testing.T) {
	p := newPair(t, 0)
	p.set(5, 10, api.OK)
	p.set(3, 10, api.OK)
	p.set(5, 12, api.ErrTaken)
	p.set(7, 0, api.ErrArg)
	if d, ok := p.w.First(); d != (api.Due{At: 10, ID: 3}) || !ok {
		t.Errorf("First() = %v, %v", d, ok)
	}
	p.advance(9)
	p.unset(5, api.OK)
	p.unset(5, api.ErrNone)
	p.set(1, 11, api.OK)
	if n := p.w.Size(); n != 2 {
		t.Errorf("Size() = %d", n)
	}
	p.advance(11, api.Due{At: 10, ID: 3}, api.Due{At: 11, ID: 1})
	p.advanceBack(10)
}

// edges are numbers at the edges of int, and some between them.
var edges = []int{math.MinInt, math.MinInt + 1, -1 << 32, -2, -1, 0, 1, 2, 1 << 32, math.MaxInt - 1, math.MaxInt}

func TestP6NewAtAllTimes(t *testing.T) {
	for _, now := range edges {
		p := newPair(t, now)
		for _, at := range edges {
			if at <= now {
				p.set(at, at, api.ErrArg)
			}
		}
		if now > math.MinInt {
			p.advanceBack(now - 1)
			p.advanceBack(math.MinInt)
		}
		p.unset(now, api.ErrNone)
		p.advance(now)
		if now < math.MaxInt {
			p.set(now, now+1, api.OK)
			p.advance(now)
			p.advance(now+1, api.Due{At: now + 1, ID: now})
		}
	}
}

func TestP7SetAtAllEdges(t *testing.T) {
	for _, now := range edges {
		for _, at := range edges {
			p := newPair(t, now)
			want := api.OK
			if at <= now {
				want = api.ErrArg
			}
			for _, id := range edges {
				p.set(id, at, want)
			}
			for _, id := range edges {
				if want == api.OK {
					p.set(id, at, api.ErrTaken)
					p.unset(id, api.OK)
				}
				p.unset(id, api.ErrNone)
			}
		}
	}
}

func TestP7ErrArgAheadOfErrTaken(t *testing.T) {
	p := newPair(t, 3)
	p.set(5, 10, api.OK)
	for _, at := range []int{3, 2, 0, -1, math.MinInt} {
		p.set(5, at, api.ErrArg)
	}
	for _, at := range []int{4, 9, 10, 11, math.MaxInt} {
		p.set(5, at, api.ErrTaken)
	}
	p.advance(10, api.Due{At: 10, ID: 5}) // at its first time, whatever came behind
}

func TestP7UnsetOneOfMany(t *testing.T) {
	for out := range 9 {
		p := newPair(t, 0)
		for id := range 9 {
			p.set(id, 1+id*4%9, api.OK) // in another order than the ids
		}
		p.unset(out, api.OK)
		p.unset(out, api.ErrNone)
		p.unset(9, api.ErrNone)
		p.unset(-1, api.ErrNone)
		want := p.dues(9)
		if len(want) != 8 {
			t.Fatalf("%d timers are left", len(want))
		}
		p.advance(9, want...)
	}
}

func TestP7SetAgain(t *testing.T) {
	p := newPair(t, 0)
	p.set(5, 10, api.OK)
	p.unset(5, api.OK)
	p.set(5, 7, api.OK) // earlier than before it was taken back
	p.unset(5, api.OK)
	p.set(5, 12, api.OK) // later
	p.advance(11)
	p.advance(12, api.Due{At: 12, ID: 5})
	p.unset(5, api.ErrNone)
	p.set(5, 12, api.ErrArg)
	p.set(5, 13, api.OK) // once it went off
	p.set(5, 14, api.ErrTaken)
	p.advance(20, api.Due{At: 13, ID: 5})
	p.advance(21)
}

func TestP8OneTimeByRisingID(t *testing.T) {
	ids := []int{7, -3, 0, math.MaxInt, 4, math.MinInt, -1, 100}
	for turn := range ids {
		p := newPair(t, -5)
		for i := range ids {
			p.set(ids[(i+turn)%len(ids)], -4, api.OK)
		}
		var want []api.Due
		for _, id := range slices.Sorted(slices.Values(ids)) {
			want = append(want, api.Due{At: -4, ID: id})
		}
		p.advance(-4, want...)
	}
}

// The time goes ahead of the id.
func TestP8ByRisingAt(t *testing.T) {
	p := newPair(t, math.MinInt)
	for i, at := range edges {
		if at > math.MinInt {
			p.set(len(edges)-i, at, api.OK)
			p.set(-i, at, api.OK)
		}
	}
	want := p.dues(math.MaxInt)
	if len(want) != 20 || want[0] != (api.Due{At: math.MinInt + 1, ID: -1}) || want[19] != (api.Due{At: math.MaxInt, ID: 1}) {
		t.Fatalf("the test itself is wrong: %v", want)
	}
	p.advance(math.MaxInt, want...)
	p.set(1, math.MaxInt, api.ErrArg)
	p.advance(math.MaxInt)
	p.advanceBack(math.MaxInt - 1)
}

func TestP8AdvanceToEachEdge(t *testing.T) {
	p := newPair(t, math.MinInt)
	for _, at := range edges[1:] {
		p.set(-1-at, at, api.OK)
	}
	p.advance(math.MinInt)
	for _, to := range edges[1:] {
		p.advance(to, api.Due{At: to, ID: -1 - to})
		p.advanceBack(to - 1)
		p.advance(to)
	}
}

func TestP8NoneAllAndTheSame(t *testing.T) {
	p := newPair(t, 0)
	p.advance(0)
	p.advance(5) // of no timers
	p.set(1, 8, api.OK)
	p.set(2, 9, api.OK)
	p.advance(5)
	p.advance(7)
	p.advance(8, api.Due{At: 8, ID: 1})
	p.advance(8)
	p.set(1, 9, api.OK)
	p.advance(100, api.Due{At: 9, ID: 1}, api.Due{At: 9, ID: 2})
	p.advance(100)
}

func TestP1ErrorsChangeNothing(t *testing.T) {
	p := newPair(t, 10)
	p.set(1, 20, api.OK)
	p.set(2, 15, api.OK)
	p.set(1, 12, api.ErrTaken)
	p.set(2, 10, api.ErrArg)
	p.set(3, 10, api.ErrArg)
	p.unset(3, api.ErrNone)
	p.advanceBack(9)
	p.set(3, 10, api.ErrArg) // Now is 10 as before
	p.advance(10)
	p.advance(14)
	p.advanceBack(13)
	p.advance(20, api.Due{At: 15, ID: 2}, api.Due{At: 20, ID: 1})
}

// scribble writes into a list and into its spare room.
func scribble(l []api.Due) {
	l = l[:cap(l)]
	for i := range l {
		l[i] = api.Due{At: -77, ID: 77}
	}
}

func TestP2ListsAreTheCallers(t *testing.T) {
	p := newPair(t, 0)
	// Long lists with spare room, and short ones that would find place in it.
	lengths := []int{0, 5, 1, 2, 9, 3, 1, 0, 3, 17, 1, 6, 5}
	id := 0
	for at, length := range lengths {
		for range length {
			p.set(id, at, api.OK)
			id++
		}
	}
	var kept, copies [][]api.Due
	for to := range lengths {
		l := p.advance(to, p.dues(to)...)
		kept = append(kept, l)
		copies = append(copies, slices.Clone(l))
	}
	for i := range kept {
		scribble(kept[i])
		p.look()
		for k := i + 1; k < len(kept); k++ {
			if !slices.Equal(kept[k], copies[k]) {
				t.Fatalf("list %d changed with list %d: %v", k, i, kept[k])
			}
		}
	}
	p.set(5, 20, api.OK)
	scribble(p.advance(13))
	p.advance(20, api.Due{At: 20, ID: 5})
}

func TestP2ScribbleBetweenCalls(t *testing.T) {
	p := newPair(t, 0)
	for id := range 30 {
		p.set(id, 1+id, api.OK)
		if id%3 == 0 {
			scribble(p.advance(id/2, p.dues(id/2)...))
		}
	}
	scribble(p.advance(30, p.dues(30)...))
	p.set(77, 31, api.OK)
	p.advance(31, api.Due{At: 31, ID: 77})
}

func TestP2SeveralSets(t *testing.T) {
	a, b, c := newPair(t, 0), newPair(t, 0), newPair(t, 100)
	a.set(1, 10, api.OK)
	b.set(1, 5, api.OK) // the same id is free there
	c.set(1, 101, api.OK)
	c.set(2, 50, api.ErrArg)
	b.unset(1, api.OK)
	b.unset(1, api.ErrNone)
	a.look()
	c.look()
	a.set(1, 11, api.ErrTaken)
	b.set(2, 10, api.OK)
	a.advance(10, api.Due{At: 10, ID: 1})
	b.set(3, 1, api.OK) // its Now is 0 still
	b.look()
	c.look()
	b.advance(10, api.Due{At: 1, ID: 3}, api.Due{At: 10, ID: 2})
	c.advanceBack(99)
	c.advance(200, api.Due{At: 101, ID: 1})
	a.set(9, 11, api.OK)
	d := newPair(t, 0) // a new one has nothing of the others
	d.advance(math.MaxInt)
	a.advance(11, api.Due{At: 11, ID: 9})
}

// draw makes calls by chance, of ids and times that a function draws.
func draw(p *pair, r *rand.Rand, number func() int) {
	for range 80 {
		id := number()
		_, taken := p.at[id]
		switch r.Intn(6) {
		case 0, 1, 2:
			at := number()
			want := api.OK
			if at <= p.now {
				want = api.ErrArg
			} else if taken {
				want = api.ErrTaken
			}
			p.set(id, at, want)
		case 3, 4:
			want := api.ErrNone
			if taken {
				want = api.OK
			}
			p.unset(id, want)
		case 5:
			to := number()
			if to < p.now {
				p.advanceBack(to)
			} else {
				scribble(p.advance(to, p.dues(to)...))
			}
		}
	}
}

func TestP7P8Drawn(t *testing.T) {
	r := rand.New(rand.NewSource(3))
	for range 400 {
		draw(newPair(t, -8), r, func() int { return r.Intn(16) - 8 })
		draw(newPair(t, math.MinInt), r, func() int { return edges[r.Intn(len(edges))] })
		draw(newPair(t, math.MinInt), r, func() int { return int(r.Uint64()) >> r.Intn(64) })
		p := newPair(t, -5)
		draw(p, r, func() int { return p.now - 2 + r.Intn(12) })
	}
}

func TestP8Many(t *testing.T) {
	const n = 100000
	w := wheel.New(0)
	for i := range n {
		if e := w.Set(i*7919%n, 1+i/10); e != api.OK {
			t.Fatalf("Set of timer %d = %d", i, e)
		}
	}
	for id := 0; id < n; id += 2 {
		if e := w.Unset(id); e != api.OK {
			t.Fatalf("Unset(%d) = %d", id, e)
		}
	}
	if w.Size() != n/2 {
		t.Errorf("Size() = %d", w.Size())
	}
	told := 0
	for _, to := range []int{1, 2, n / 20, n / 10} {
		l, e := w.Advance(to)
		if e != api.OK {
			t.Fatalf("Advance(%d) = %d", to, e)
		}
		for i, d := range l {
			if d.ID%2 == 0 || i > 0 && (d.At < l[i-1].At || d.At == l[i-1].At && d.ID <= l[i-1].ID) {
				t.Fatalf("Advance(%d) tells %v at place %d", to, d, i)
			}
		}
		told += len(l)
	}
	if told != n/2 || w.Size() != 0 {
		t.Errorf("%d went off, %d are left", told, w.Size())
	}
}
