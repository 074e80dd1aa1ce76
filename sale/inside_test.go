package sale

import (
	"testing"

	"sale/api"
)

// inside is a sale whose insides a test sets or looks at.
type inside struct {
	t     *testing.T
	s     *Sale
	token int
}

func openInside(t *testing.T) *inside {
	s, e := Open(api.Config{
		Stock: 5, Cap: 4, Queue: 9, Lease: 10, Wait: 20, Keep: 30, Tokens: 99,
		Prices: []api.Tier{{From: 0, Cents: 100}},
	})
	if e != api.OK {
		t.Fatalf("Open = %d", e)
	}
	return &inside{t: t, s: s}
}

// want sends a request, with the next token, of which it wants this reply.
func (p *inside) want(r api.Request, want api.Reply) {
	p.t.Helper()
	p.token++
	r.Token = p.token
	b, _ := Pack(r)
	if got := p.s.Send(b); got != want {
		p.t.Errorf("%+v is answered %+v, want %+v", r, got, want)
	}
}

func (p *inside) ask(customer, units int, want api.Reply) {
	p.t.Helper()
	p.want(api.Request{Kind: api.Ask, Customer: customer, Units: units}, want)
}

func (p *inside) confirm(customer, order, cents int) {
	p.t.Helper()
	p.want(api.Request{Kind: api.Confirm, Customer: customer, Order: order}, api.Reply{Kind: api.Confirmed, Order: order, Cents: cents})
}

func (p *inside) cancel(customer, order int) {
	p.t.Helper()
	p.want(api.Request{Kind: api.Cancel, Customer: customer, Order: order}, api.Reply{Kind: api.Cancelled, Order: order})
}

// So many orders cannot be made one by one, so this test numbers the last of
// them itself.
func TestP11NoMoreNumbers(t *testing.T) {
	p := openInside(t)
	p.s.last = api.MaxNumber - 2
	p.ask(1, 4, api.Reply{Kind: api.Granted, Order: api.MaxNumber - 1, Cents: 100, Until: 10})
	p.ask(2, 3, api.Reply{Kind: api.Queued, Order: api.MaxNumber, Until: 20})
	p.ask(3, 1, api.Reply{Kind: api.Busy}) // would be Queued
	p.cancel(2, api.MaxNumber)
	p.ask(3, 1, api.Reply{Kind: api.Busy})    // would be Granted
	p.ask(1, 1, api.Reply{Kind: api.OverCap}) // ahead of Busy
	p.confirm(1, api.MaxNumber-1, 400)
	p.ask(3, 2, api.Reply{Kind: api.SoldOut}) // ahead of Busy
	p.ask(3, 1, api.Reply{Kind: api.Busy})
	if b := p.s.Books(); b != (api.Books{Free: 1, Sold: 4, Answers: 9}) {
		t.Errorf("Books() = %+v", b)
	}
}

// kept compares how many orders, places in the queue, sums of units and
// answers are kept.
func (p *inside) kept(orders, queue, sums, answers int) {
	p.t.Helper()
	s := p.s
	if n := len(s.orders.list); n != orders || s.orders.places.Size() != orders {
		p.t.Errorf("%d orders are kept, want %d", n, orders)
	}
	if n := s.timers.Size(); n != orders {
		p.t.Errorf("%d timers of orders are kept, want %d", n, orders)
	}
	if n := s.queue.turns.Size(); n != queue || s.queue.sizes.Size() != queue {
		p.t.Errorf("%d and %d places in the queue are kept, want %d", n, s.queue.sizes.Size(), queue)
	}
	if n := s.ledger.units.Size(); n != sums {
		p.t.Errorf("%d sums of units are kept, want %d", n, sums)
	}
	if n := len(s.answers.list); n != answers || s.answers.places.Size() != answers {
		p.t.Errorf("%d answers are kept, want %d", n, answers)
	}
	if n := s.answers.timers.Size(); n != answers {
		p.t.Errorf("%d timers of answers are kept, want %d", n, answers)
	}
	// Append takes some room ahead; a list of a few has room for a few.
	if n := cap(s.orders.list); n > 4*orders+8 {
		p.t.Errorf("there is room for %d orders, where %d are kept", n, orders)
	}
	if n := cap(s.answers.list); n > 4*answers+8 {
		p.t.Errorf("there is room for %d answers, where %d are kept", n, answers)
	}
}

func (p *inside) tick(n int) {
	p.t.Helper()
	want := p.s.clock + n
	if got, e := p.s.Tick(n); got != want || e != api.OK {
		p.t.Errorf("Tick(%d) = %d, %d, want %d", n, got, e, want)
	}
}

// No more is kept than the promises need, however often an order changes.
func TestNoMoreIsKept(t *testing.T) {
	p := openInside(t)
	p.kept(0, 0, 0, 0)
	p.ask(1, 4, api.Reply{Kind: api.Granted, Order: 1, Cents: 100, Until: 10})
	p.ask(2, 3, api.Reply{Kind: api.Queued, Order: 2, Until: 20})
	p.ask(3, 2, api.Reply{Kind: api.Queued, Order: 3, Until: 20})
	p.ask(3, 1, api.Reply{Kind: api.Queued, Order: 4, Until: 20})
	p.kept(4, 3, 3, 4)
	p.cancel(1, 1) // orders 2 and 3 become Held
	p.kept(4, 1, 3, 5)
	p.confirm(2, 2, 300) // 2 are left
	p.kept(4, 1, 3, 6)
	p.cancel(3, 3) // order 4 becomes Held
	p.kept(4, 0, 2, 7)
	p.cancel(3, 4)
	p.kept(4, 0, 1, 8)
	p.ask(4, 1, api.Reply{Kind: api.Granted, Order: 5, Cents: 100, Until: 10})
	p.ask(5, 2, api.Reply{Kind: api.Queued, Order: 6, Until: 20})
	p.kept(6, 1, 3, 10)
	p.confirm(4, 5, 100) // order 6 is Drained
	p.kept(6, 0, 2, 11)
}

// What is over is not kept: answers, and orders that ended, Keep behind that.
func TestNoMoreIsKeptAsTimeGoesBy(t *testing.T) {
	p := openInside(t)
	p.ask(1, 4, api.Reply{Kind: api.Granted, Order: 1, Cents: 100, Until: 10})
	p.ask(2, 3, api.Reply{Kind: api.Queued, Order: 2, Until: 20})
	p.tick(5)
	p.ask(3, 4, api.Reply{Kind: api.Queued, Order: 3, Until: 25})
	p.kept(3, 2, 3, 3)
	p.tick(5) // order 1 lapses, order 2 becomes Held
	p.kept(3, 1, 2, 3)
	p.confirm(2, 2, 300) // order 3 is Drained
	p.kept(3, 0, 1, 4)
	p.ask(4, 2, api.Reply{Kind: api.Granted, Order: 4, Cents: 100, Until: 20})
	p.ask(4, 1, api.Reply{Kind: api.Queued, Order: 5, Until: 30})
	p.kept(5, 1, 3, 6)
	p.tick(15)
	p.kept(5, 0, 2, 6) // at 25 order 4 has lapsed, order 5 is Held until 30
	p.tick(5)
	p.kept(5, 0, 1, 4) // at 30 the first two answers are over
	p.tick(9)
	p.kept(5, 0, 1, 3)
	p.tick(1)
	p.kept(2, 0, 1, 0) // at 40 orders 1 to 3 are, too
	p.tick(10)
	p.kept(1, 0, 1, 0)
	p.tick(10)
	p.kept(0, 0, 1, 0) // what is sold counts for the cap for ever
	p.tick(1000)
	p.kept(0, 0, 1, 0)
	p.ask(2, 2, api.Reply{Kind: api.OverCap})
	p.kept(0, 0, 1, 1)
}

// Behind a rush as much is kept as without it, and nothing is mixed up as
// places are filled anew.
func TestNoMoreIsKeptBehindARush(t *testing.T) {
	const n = 3000
	p := openInside(t)
	p.s.config.Stock, p.s.config.Queue, p.s.config.Tokens = n, n, n
	for number := 1; number <= n; number++ {
		p.ask(number, 1, api.Reply{Kind: api.Granted, Order: number, Cents: 100, Until: p.s.clock + 10})
		if number%200 == 0 {
			p.tick(1)
		}
	}
	p.kept(n, 0, n-6*200, n) // at 15 those that came up to 5 have lapsed
	for p.s.clock < 60 {
		p.tick(1)
		held := max(0, 24-p.s.clock) * 200
		answers := n - min(15, max(0, p.s.clock-29))*200
		orders := n - min(15, max(0, p.s.clock-39))*200
		p.kept(orders, 0, held, answers)
		for number := 1; number <= n; number += 7 {
			want := api.Reply{Kind: api.Lapsed, Order: number}
			came := (number - 1) / 200
			if came+10 > p.s.clock {
				want = api.Reply{Kind: api.Held, Order: number, Cents: 100, Until: came + 10}
			}
			if came+40 <= p.s.clock {
				want = api.Reply{Kind: api.Unknown}
			}
			b, _ := Pack(api.Request{Kind: api.Poll, Customer: number, Order: number})
			if got := p.s.Send(b); got != want {
				t.Fatalf("at %d order %d is %+v, want %+v", p.s.clock, number, got, want)
			}
		}
	}
	p.kept(0, 0, 0, 0)
	p.ask(1, 1, api.Reply{Kind: api.Granted, Order: n + 1, Cents: 100, Until: 70})
	p.kept(1, 0, 1, 1)
}
