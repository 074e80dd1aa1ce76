package sale_test

import (
	"math"
	"testing"

	"sale/api"
	"sale/sale"
)

// The document's sale, whole.
func TestP10ToP16Example(t *testing.T) {
	p := openPair(t, rightConfig())
	p.want(ask(1, 7, 3), re(api.Granted, 1, 100, 10))
	p.want(ask(2, 8, 3), re(api.Queued, 2, 0, 20))
	p.want(ask(3, 9, 1), re(api.Queued, 3, 0, 20))
	p.want(ask(4, 9, 1), re(api.Busy, 0, 0, 0))
	p.want(ask(5, 7, 2), re(api.OverCap, 0, 0, 0))
	p.want(ask(1, 7, 3), re(api.Granted, 1, 100, 10))
	p.want(ask(1, 7, 2), re(api.Conflict, 0, 0, 0))
	p.books(2, 3, 0, 2, 5)
	p.account(7, 3, 0, 0)
	p.account(8, 0, 0, 3)
	p.account(9, 0, 0, 1)
	p.want(confirm(6, 7, 1), re(api.Confirmed, 1, 300, 0))
	p.want(poll(8, 2), re(api.Drained, 2, 0, 0))
	p.want(poll(9, 3), re(api.Held, 3, 150, 10))
	p.want(poll(8, 3), re(api.Unknown, 0, 0, 0))
	p.books(1, 1, 3, 0, 6)
	p.account(7, 0, 3, 0)
	p.account(8, 0, 0, 0)
	p.account(9, 1, 0, 0)
	p.tick(10, 10)
	p.want(poll(9, 3), re(api.Lapsed, 3, 0, 0))
	p.want(ask(7, 9, 3), re(api.SoldOut, 0, 0, 0))
	p.want(confirm(8, 9, 3), re(api.Gone, 0, 0, 0))
	p.want(ask(9, 9, 1), re(api.Full, 0, 0, 0))
	p.books(2, 0, 3, 0, 8)
	p.tick(20, 30)
	p.books(2, 0, 3, 0, 2)
	p.want(poll(8, 2), re(api.Unknown, 0, 0, 0))
	p.want(poll(9, 3), re(api.Lapsed, 3, 0, 0))
	p.want(ask(1, 7, 1), re(api.Granted, 4, 150, 40))
}

func TestP16WrongTicks(t *testing.T) {
	p := openPair(t, rightConfig())
	refuse := func() {
		t.Helper()
		for _, n := range []int{-1, -2, -10, -1 << 32, -1 << 62, math.MinInt + 1, math.MinInt} {
			if got, e := p.s.Tick(n); got != 0 || e != api.ErrArg {
				t.Errorf("Tick(%d) = %d, %d", n, got, e)
			}
			p.look()
		}
	}
	refuse()
	p.want(ask(1, 7, 4), re(api.Granted, 1, 100, 10))
	p.want(ask(2, 8, 2), re(api.Queued, 2, 0, 20))
	p.tick(9, 9) // one ahead of the lease's end
	refuse()
	p.want(poll(7, 1), re(api.Held, 1, 100, 10))
	p.tick(api.MaxClock, api.MaxClock)
	refuse()
}

// A tick of 0 does nothing, wherever the clock is.
func TestP16NoTime(t *testing.T) {
	p := openPair(t, rightConfig())
	p.tick(0, 0)
	p.want(ask(1, 7, 4), re(api.Granted, 1, 100, 10))
	p.want(ask(2, 8, 2), re(api.Queued, 2, 0, 20))
	p.tick(0, 0)
	p.tick(9, 9)
	p.tick(0, 9)
	p.books(1, 4, 0, 1, 2)
	p.tick(1, 10)
	p.tick(0, 10)
	p.books(3, 2, 0, 0, 2)
	p.tick(0, 10)
}

func TestP16MuchAtOnce(t *testing.T) {
	for _, n := range []int{1, 2, 1 << 20, 1 << 32, 1<<62 - 1, 1 << 62, 1<<62 + 1, math.MaxInt - 1, math.MaxInt} {
		p := openPair(t, rightConfig())
		p.want(ask(1, 7, 4), re(api.Granted, 1, 100, 10))
		p.want(ask(2, 8, 3), re(api.Queued, 2, 0, 20))
		clock := min(n, api.MaxClock)
		p.tick(n, clock)
		p.tick(0, clock)
		clock = min(clock+1, api.MaxClock)
		p.tick(1, clock)
		p.tick(math.MaxInt, api.MaxClock)
		p.tick(math.MaxInt, api.MaxClock)
		p.tick(1, api.MaxClock)
		p.tick(0, api.MaxClock)
		p.books(5, 0, 0, 0, 0)
	}
}

// Near its greatest the clock stops; what is behind that never comes.
func TestP16TheClockAtItsGreatest(t *testing.T) {
	const most = api.MaxClock
	c := rightConfig()
	c.Tokens = 20
	p := openPair(t, c)
	p.tick(most-10, most-10)
	p.want(ask(1, 7, 3), re(api.Granted, 1, 100, most)) // just comes
	p.want(ask(2, 8, 3), re(api.Queued, 2, 0, most+10))
	p.tick(9, most-1)
	p.want(poll(7, 1), re(api.Held, 1, 100, most))
	p.want(ask(3, 9, 1), re(api.Queued, 3, 0, most+19))
	p.tick(1, most)
	p.want(poll(7, 1), re(api.Lapsed, 1, 0, 0))
	p.want(poll(8, 2), re(api.Held, 2, 100, most+10))
	p.want(poll(9, 3), re(api.Held, 3, 100, most+10))
	p.want(ask(4, 7, 4), re(api.Queued, 4, 0, most+20))
	for _, n := range []int{1, 10, 20, 30, most, math.MaxInt} {
		p.tick(n, most)
		p.books(1, 4, 0, 1, 4)
	}
	// Nothing is over any more, but all that is sent is done.
	p.want(ask(1, 7, 3), re(api.Granted, 1, 100, most))
	p.want(poll(7, 1), re(api.Lapsed, 1, 0, 0))
	p.want(confirm(5, 8, 2), re(api.Confirmed, 2, 300, 0))
	p.want(poll(7, 4), re(api.Drained, 4, 0, 0))
	p.want(cancel(6, 9, 3), re(api.Cancelled, 3, 0, 0))
	p.want(ask(7, 9, 2), re(api.Granted, 5, 150, most+10))
	p.tick(math.MaxInt, most)
	p.books(0, 2, 3, 0, 7)
}

// With the greatest spans, at the greatest clock.
func TestP16GreatSpans(t *testing.T) {
	const most, late = api.MaxNumber, api.MaxClock - 1
	c := wide(most, most)
	c.Lease, c.Wait, c.Keep = most, most, most
	p := openPair(t, c)
	p.tick(late, late)
	p.want(ask(1, 1, most), re(api.Granted, 1, 100, late+most))
	p.want(ask(2, 2, most), re(api.Queued, 2, 0, late+most))
	p.want(cancel(3, 1, 1), re(api.Cancelled, 1, 0, 0))
	p.want(poll(2, 2), re(api.Held, 2, 100, late+most))
	p.tick(math.MaxInt, api.MaxClock)
	p.books(0, most, 0, 0, 3)

	p = openPair(t, c)
	p.want(ask(1, 1, most), re(api.Granted, 1, 100, most))
	p.want(ask(2, 2, 1), re(api.Queued, 2, 0, most))
	p.tick(most-1, most-1)
	p.books(0, most, 0, 1, 2)
	p.tick(1, most)
	p.books(most-1, 1, 0, 0, 0)
	p.want(poll(2, 2), re(api.Held, 2, 100, 2*most))
	p.tick(2*most-1, 3*most-1)
	p.want(poll(1, 1), re(api.Unknown, 0, 0, 0))
	p.want(poll(2, 2), re(api.Lapsed, 2, 0, 0))
	p.tick(1, 3*most)
	p.want(poll(2, 2), re(api.Unknown, 0, 0, 0))
}

// The least spans: everything is over at the next time.
func TestP16SmallSpans(t *testing.T) {
	c := wide(2, 2)
	c.Lease, c.Wait, c.Keep = 1, 1, 1
	p := openPair(t, c)
	p.want(ask(1, 1, 2), re(api.Granted, 1, 100, 1))
	p.want(ask(2, 2, 1), re(api.Queued, 2, 0, 1))
	p.want(ask(3, 3, 2), re(api.Queued, 3, 0, 1))
	p.tick(1, 1)
	p.books(1, 1, 0, 0, 0)
	p.want(poll(1, 1), re(api.Lapsed, 1, 0, 0))
	p.want(poll(2, 2), re(api.Held, 2, 100, 2))
	p.want(poll(3, 3), re(api.Late, 3, 0, 0))
	p.want(ask(1, 1, 2), re(api.Queued, 4, 0, 2))
	p.tick(1, 2)
	p.want(poll(1, 1), re(api.Unknown, 0, 0, 0))
	p.want(poll(2, 2), re(api.Lapsed, 2, 0, 0))
	p.want(poll(3, 3), re(api.Unknown, 0, 0, 0))
	p.want(poll(1, 4), re(api.Held, 4, 100, 3))
}

// A lease ends at its Until, not one ahead of it.
func TestP16Lapsed(t *testing.T) {
	p := openPair(t, wide(5, 5))
	p.want(ask(1, 1, 2), re(api.Granted, 1, 100, 10))
	p.tick(3, 3)
	p.want(ask(2, 1, 1), re(api.Granted, 2, 100, 13))
	p.want(ask(3, 2, 1), re(api.Granted, 3, 100, 13))
	p.tick(6, 9)
	p.want(poll(1, 1), re(api.Held, 1, 100, 10))
	p.account(1, 3, 0, 0)
	p.tick(1, 10)
	p.want(poll(1, 1), re(api.Lapsed, 1, 0, 0))
	p.account(1, 1, 0, 0)
	p.want(confirm(4, 1, 1), re(api.Gone, 0, 0, 0))
	p.want(cancel(5, 1, 1), re(api.Gone, 0, 0, 0))
	p.want(ask(6, 1, 4), re(api.Queued, 4, 0, 30)) // what lapsed counts no more for the cap
	p.tick(2, 12)
	p.want(confirm(7, 1, 2), re(api.Confirmed, 2, 100, 0)) // the last moment
	p.want(poll(1, 4), re(api.Waiting, 4, 0, 30))
	p.tick(1, 13)
	p.want(poll(1, 2), re(api.Sold, 2, 100, 0)) // what is sold does not lapse
	p.want(poll(2, 3), re(api.Lapsed, 3, 0, 0))
	p.want(poll(1, 4), re(api.Held, 4, 100, 23))
	p.tick(9, 22)
	p.want(cancel(8, 1, 4), re(api.Cancelled, 4, 0, 0)) // the last moment
	p.tick(1, 23)
	p.want(poll(1, 4), re(api.Dropped, 4, 0, 0)) // what was cancelled does not lapse
	p.books(4, 0, 1, 0, 8)
}

// An order is late at its Until, not one ahead of it.
func TestP16Late(t *testing.T) {
	c := wide(5, 5)
	c.Lease, c.Wait = 100, 7
	p := openPair(t, c)
	p.want(ask(1, 1, 4), re(api.Granted, 1, 100, 100))
	p.want(ask(2, 2, 3), re(api.Queued, 2, 0, 7))
	p.tick(1, 1)
	p.want(ask(3, 2, 2), re(api.Queued, 3, 0, 8))
	p.want(ask(4, 3, 1), re(api.Queued, 4, 0, 8))
	p.tick(5, 6)
	p.want(poll(2, 2), re(api.Waiting, 2, 0, 7))
	p.account(2, 0, 0, 5)
	p.want(ask(5, 4, 1), re(api.Queued, 5, 0, 13))
	p.tick(1, 7)
	p.want(poll(2, 2), re(api.Late, 2, 0, 0))
	p.account(2, 0, 0, 2)
	p.want(confirm(6, 2, 2), re(api.Gone, 0, 0, 0))
	p.want(cancel(7, 2, 2), re(api.Gone, 0, 0, 0))
	p.want(poll(3, 4), re(api.Waiting, 4, 0, 8)) // order 3 is first, and wants 2
	p.tick(1, 8)                                 // orders 3 and 4 are late together, then order 5 is first
	p.want(poll(2, 3), re(api.Late, 3, 0, 0))
	p.want(poll(3, 4), re(api.Late, 4, 0, 0))
	p.want(poll(4, 5), re(api.Held, 5, 100, 108))
	p.books(0, 5, 0, 0, 7)
}

// All that are late at one time are late ahead of the promotion, also one that
// would then be first and fit.
func TestP16LateTogether(t *testing.T) {
	c := wide(5, 5)
	c.Lease, c.Wait = 100, 7
	p := openPair(t, c)
	p.want(ask(1, 1, 3), re(api.Granted, 1, 100, 100))
	p.want(ask(2, 2, 3), re(api.Queued, 2, 0, 7))
	p.want(ask(3, 3, 1), re(api.Queued, 3, 0, 7))
	p.want(ask(4, 4, 2), re(api.Queued, 4, 0, 7))
	p.tick(3, 3)
	p.want(ask(5, 5, 1), re(api.Queued, 5, 0, 10))
	p.tick(4, 7)
	for number := 2; number <= 4; number++ {
		p.want(poll(number, number), re(api.Late, number, 0, 0))
	}
	p.want(poll(5, 5), re(api.Held, 5, 100, 107))
	p.books(1, 4, 0, 0, 5)
}

// At one time leases end ahead of waits: who can be served then is served.
func TestP16LapsedAheadOfLate(t *testing.T) {
	c := wide(5, 5)
	c.Wait = 10
	p := openPair(t, c)
	p.want(ask(1, 1, 4), re(api.Granted, 1, 100, 10))
	p.want(ask(2, 2, 3), re(api.Queued, 2, 0, 10))
	p.want(ask(3, 3, 1), re(api.Queued, 3, 0, 10))
	p.want(ask(4, 4, 2), re(api.Queued, 4, 0, 10))
	p.want(ask(5, 5, 1), re(api.Queued, 5, 0, 10))
	p.tick(9, 9)
	p.want(ask(6, 6, 1), re(api.Queued, 6, 0, 19))
	p.tick(1, 10)
	p.want(poll(1, 1), re(api.Lapsed, 1, 0, 0))
	p.want(poll(2, 2), re(api.Held, 2, 100, 20))
	p.want(poll(3, 3), re(api.Held, 3, 100, 20))
	p.want(poll(4, 4), re(api.Late, 4, 0, 0))
	p.want(poll(5, 5), re(api.Late, 5, 0, 0)) // it fits, but order 4 was ahead of it
	p.want(poll(6, 6), re(api.Held, 6, 100, 20))
	p.tick(10, 20)
	p.books(5, 0, 0, 0, 6)
}

// Several leases end at one time; together they make the room that is wanted.
func TestP16LapsedTogether(t *testing.T) {
	p := openPair(t, wide(6, 6))
	p.want(ask(1, 1, 2), re(api.Granted, 1, 100, 10))
	p.want(ask(2, 2, 4), re(api.Granted, 2, 100, 10))
	p.want(ask(3, 3, 6), re(api.Queued, 3, 0, 20))
	p.want(ask(4, 1, 1), re(api.Queued, 4, 0, 20))
	p.tick(10, 10)
	p.want(poll(3, 3), re(api.Held, 3, 100, 20))
	p.want(poll(1, 4), re(api.Waiting, 4, 0, 20))
	p.want(ask(5, 2, 5), re(api.Queued, 5, 0, 30))
	p.tick(10, 20) // order 3 lapses, order 4 is held at the last moment, order 5 with it
	p.want(poll(1, 4), re(api.Held, 4, 100, 30))
	p.want(poll(2, 5), re(api.Held, 5, 100, 30))
	p.tick(10, 30)
	p.books(6, 0, 0, 0, 1)
}

// On one way orders lapse and the next ones are held, from the time on at which
// they became so.
func TestP16ManyOnOneWay(t *testing.T) {
	c := wide(5, 5)
	c.Wait, c.Keep = 100, 1000
	p := openPair(t, c)
	p.want(ask(1, 1, 5), re(api.Granted, 1, 100, 10))
	for number := 2; number <= 12; number++ {
		p.want(ask(number, number, 5), re(api.Queued, number, 0, 100))
	}
	p.tick(35, 35)
	p.want(poll(3, 3), re(api.Lapsed, 3, 0, 0))
	p.want(poll(4, 4), re(api.Held, 4, 100, 40))
	p.want(poll(5, 5), re(api.Waiting, 5, 0, 100))
	p.tick(5, 40)
	p.want(poll(5, 5), re(api.Held, 5, 100, 50))
	p.tick(500, 540)
	p.want(poll(10, 10), re(api.Lapsed, 10, 0, 0))
	p.want(poll(11, 11), re(api.Lapsed, 11, 0, 0)) // held at 100, the last moment, lapsed at 110
	p.want(poll(12, 12), re(api.Late, 12, 0, 0))
	p.tick(459, 999)
	p.books(5, 0, 0, 0, 12)
	p.tick(1, 1000)
	p.books(5, 0, 0, 0, 0)
	p.tick(9, 1009)
	p.want(poll(1, 1), re(api.Lapsed, 1, 0, 0)) // it ended at 10
	p.tick(1, 1010)
	p.want(poll(1, 1), re(api.Unknown, 0, 0, 0))
	p.want(poll(2, 2), re(api.Lapsed, 2, 0, 0)) // at 20
	p.tick(89, 1099)
	p.want(poll(12, 12), re(api.Late, 12, 0, 0)) // at 100
	p.want(poll(11, 11), re(api.Lapsed, 11, 0, 0))
	p.tick(1, 1100)
	p.want(poll(12, 12), re(api.Unknown, 0, 0, 0))
	p.want(poll(11, 11), re(api.Lapsed, 11, 0, 0)) // at 110
	p.tick(10, 1110)
	p.want(poll(11, 11), re(api.Unknown, 0, 0, 0))
}

// On one way an order ends, and so long behind that the clock comes that it is
// not known any more.
func TestP16EndedAndForgottenOnOneWay(t *testing.T) {
	p := openPair(t, wide(5, 5))
	p.want(ask(1, 1, 5), re(api.Granted, 1, 100, 10))
	p.want(ask(2, 2, 5), re(api.Queued, 2, 0, 20))
	p.want(ask(3, 3, 5), re(api.Queued, 3, 0, 20))
	p.tick(49, 49)
	p.want(poll(1, 1), re(api.Unknown, 0, 0, 0)) // lapsed at 10
	p.want(poll(2, 2), re(api.Lapsed, 2, 0, 0))  // at 20
	p.want(poll(3, 3), re(api.Lapsed, 3, 0, 0))  // at 30
	p.tick(11, 60)
	p.want(poll(2, 2), re(api.Unknown, 0, 0, 0))
	p.want(poll(3, 3), re(api.Unknown, 0, 0, 0))
	p.want(ask(1, 1, 1), re(api.Granted, 4, 100, 70)) // numbers go on
}

// The price is that of the moment at which an order becomes Held, on the way as
// well.
func TestP16PricesOnTheWay(t *testing.T) {
	c := wide(6, 6)
	c.Prices = tiers([][2]int{{0, 10}, {2, 20}, {3, 30}})
	p := openPair(t, c)
	p.want(ask(1, 1, 2), re(api.Granted, 1, 10, 10))
	p.want(ask(2, 2, 4), re(api.Granted, 2, 10, 10))
	p.want(ask(3, 3, 1), re(api.Queued, 3, 0, 20))
	p.tick(2, 2)
	p.want(confirm(4, 1, 1), re(api.Confirmed, 1, 20, 0))
	p.tick(10, 12)
	p.want(poll(3, 3), re(api.Held, 3, 20, 20)) // held at 10
	p.want(ask(5, 4, 3), re(api.Granted, 4, 20, 22))
	p.want(confirm(6, 3, 3), re(api.Confirmed, 3, 20, 0))
	p.want(ask(7, 5, 1), re(api.Queued, 5, 0, 32))
	p.tick(9, 21)
	p.want(poll(4, 4), re(api.Held, 4, 20, 22))           // as it was
	p.want(confirm(8, 4, 4), re(api.Confirmed, 4, 60, 0)) // though 30 is the price by now
	p.books(0, 0, 6, 0, 8)
	p.want(poll(5, 5), re(api.Drained, 5, 0, 0))
}

// What no time ends: an order that is Held or Waiting is known however small
// Keep is, and what is sold stays sold.
func TestP13KeepIsOfTheEnd(t *testing.T) {
	c := wide(5, 5)
	c.Lease, c.Wait, c.Keep = 100, 50, 1
	p := openPair(t, c)
	p.want(ask(1, 1, 3), re(api.Granted, 1, 100, 100))
	p.want(ask(2, 2, 3), re(api.Queued, 2, 0, 50))
	p.tick(49, 49)
	p.want(poll(1, 1), re(api.Held, 1, 100, 100))
	p.want(poll(2, 2), re(api.Waiting, 2, 0, 50))
	p.tick(1, 50)
	p.want(poll(2, 2), re(api.Late, 2, 0, 0))
	p.tick(1, 51)
	p.want(poll(2, 2), re(api.Unknown, 0, 0, 0))
	p.want(confirm(3, 1, 1), re(api.Confirmed, 1, 300, 0))
	p.want(poll(1, 1), re(api.Sold, 1, 300, 0))
	p.tick(1, 52)
	p.want(poll(1, 1), re(api.Unknown, 0, 0, 0))
	p.account(1, 0, 3, 0)
	p.books(2, 0, 3, 0, 0)
	p.want(ask(1, 1, 3), re(api.OverCap, 0, 0, 0)) // what was sold counts, though nobody knows the order
	p.want(ask(2, 2, 3), re(api.SoldOut, 0, 0, 0))
	p.want(ask(3, 2, 2), re(api.Granted, 3, 100, 152)) // numbers are not used again
}

// Each way to end, each at a time of its own: known up to one ahead of Keep.
func TestP13HowLongOutcomesAreKnown(t *testing.T) {
	c := wide(5, 5)
	c.Lease, c.Wait = 10, 8
	p := openPair(t, c)
	p.want(ask(1, 1, 2), re(api.Granted, 1, 100, 10))
	p.want(ask(2, 2, 2), re(api.Granted, 2, 100, 10))
	p.want(ask(3, 3, 4), re(api.Queued, 3, 0, 8))
	p.tick(2, 2)
	p.want(ask(4, 4, 3), re(api.Queued, 4, 0, 10))
	p.tick(1, 3)
	p.want(confirm(5, 1, 1), re(api.Confirmed, 1, 200, 0)) // 3 are left: order 3 is Drained
	p.tick(1, 4)
	p.want(cancel(6, 2, 2), re(api.Cancelled, 2, 0, 0)) // order 4 is Held until 14
	p.want(ask(7, 5, 2), re(api.Queued, 5, 0, 12))
	p.tick(11, 15)
	told := []struct{ customer, number, ended, kind, cents int }{
		{1, 1, 3, api.Sold, 200},
		{3, 3, 3, api.Drained, 0},
		{2, 2, 4, api.Dropped, 0},
		{5, 5, 12, api.Late, 0},
		{4, 4, 14, api.Lapsed, 0},
	}
	for clock := 15; clock <= 46; clock++ {
		for _, o := range told {
			want := re(o.kind, o.number, o.cents, 0)
			if clock >= o.ended+30 {
				want = re(api.Unknown, 0, 0, 0)
			}
			p.want(poll(o.customer, o.number), want)
			p.want(poll(o.customer%5+1, o.number), re(api.Unknown, 0, 0, 0))
		}
		p.tick(1, clock+1)
	}
	p.account(1, 0, 2, 0)
}

// A Poll changes nothing, so it does not keep an order known.
func TestP13PollDoesNotProlong(t *testing.T) {
	p := openPair(t, wide(5, 5))
	p.want(ask(1, 1, 2), re(api.Granted, 1, 100, 10))
	p.want(cancel(2, 1, 1), re(api.Cancelled, 1, 0, 0))
	for clock := 1; clock < 30; clock++ {
		p.tick(1, clock)
		p.want(poll(1, 1), re(api.Dropped, 1, 0, 0))
		p.want(confirm(100+clock, 1, 1), re(api.Gone, 0, 0, 0))
	}
	p.tick(1, 30)
	p.want(poll(1, 1), re(api.Unknown, 0, 0, 0))
	p.want(cancel(3, 1, 1), re(api.Gone, 0, 0, 0))
	p.want(confirm(4, 1, 1), re(api.Gone, 0, 0, 0))
}

// An answer is remembered up to one ahead of Keep, and then is not: the frame
// is done anew.
func TestP14HowLongAnswersAreRemembered(t *testing.T) {
	c := wide(9, 9)
	c.Lease = 100
	p := openPair(t, c)
	p.want(ask(1, 1, 2), re(api.Granted, 1, 100, 100))
	p.want(ask(2, 1, 9), re(api.OverCap, 0, 0, 0))
	p.tick(5, 5)
	p.want(ask(3, 2, 2), re(api.Granted, 2, 100, 105))
	p.want(confirm(4, 2, 2), re(api.Confirmed, 2, 200, 0))
	p.want(confirm(5, 2, 2), re(api.Gone, 0, 0, 0))
	p.tick(24, 29)
	p.books(5, 2, 2, 0, 5)
	p.want(ask(1, 1, 2), re(api.Granted, 1, 100, 100))
	p.want(ask(1, 1, 1), re(api.Conflict, 0, 0, 0))
	p.want(ask(2, 1, 9), re(api.OverCap, 0, 0, 0))
	p.tick(1, 30)
	p.books(5, 2, 2, 0, 3)
	p.want(ask(1, 1, 2), re(api.Granted, 3, 100, 130)) // the same frame, another order
	p.want(ask(2, 3, 1), re(api.Granted, 4, 100, 130)) // another frame of this token
	p.want(ask(2, 1, 9), re(api.Conflict, 0, 0, 0))
	p.books(2, 5, 2, 0, 5)
	p.tick(4, 34)
	p.want(confirm(4, 2, 2), re(api.Confirmed, 2, 200, 0))
	p.want(cancel(5, 2, 2), re(api.Conflict, 0, 0, 0))
	p.tick(1, 35)
	p.books(2, 5, 2, 0, 2)
	p.want(confirm(4, 2, 2), re(api.Gone, 0, 0, 0)) // it is sold
	p.want(cancel(5, 3, 4), re(api.Cancelled, 4, 0, 0))
	p.want(ask(1, 1, 2), re(api.Granted, 3, 100, 130))
	p.tick(24, 59)
	p.books(3, 4, 2, 0, 4)
	p.tick(1, 60)
	p.books(3, 4, 2, 0, 2)
}

// Its time runs from when it was given first; to give it once more, or to
// answer Conflict, does not prolong it.
func TestP14CopiesDoNotProlong(t *testing.T) {
	p := openPair(t, wide(9, 9))
	p.want(ask(1, 1, 2), re(api.Granted, 1, 100, 10))
	for clock := 1; clock < 30; clock++ {
		p.tick(1, clock)
		p.want(ask(1, 1, 2), re(api.Granted, 1, 100, 10)) // as it was answered, though it lapsed
		p.want(ask(1, 1, 3), re(api.Conflict, 0, 0, 0))
		if n := p.s.Books().Answers; n != 1 {
			t.Fatalf("at %d %d answers are remembered", clock, n)
		}
	}
	p.tick(1, 30)
	p.books(9, 0, 0, 0, 0)
	p.want(ask(1, 1, 3), re(api.Granted, 2, 100, 40))
	p.want(ask(1, 1, 2), re(api.Conflict, 0, 0, 0))
}

// Room for answers comes back at the very time, and only as much.
func TestP14FullAsTimeGoesBy(t *testing.T) {
	c := wide(9, 9)
	c.Tokens, c.Keep, c.Lease = 3, 10, 100
	p := openPair(t, c)
	p.want(ask(1, 1, 1), re(api.Granted, 1, 100, 100))
	p.want(ask(2, 1, 1), re(api.Granted, 2, 100, 100))
	p.tick(3, 3)
	p.want(ask(3, 1, 1), re(api.Granted, 3, 100, 103))
	p.want(ask(4, 1, 1), re(api.Full, 0, 0, 0))
	p.tick(6, 9)
	p.want(ask(4, 1, 1), re(api.Full, 0, 0, 0))
	p.tick(1, 10)
	p.books(6, 3, 0, 0, 1)
	p.want(ask(4, 1, 1), re(api.Granted, 4, 100, 110))
	p.want(ask(1, 1, 1), re(api.Granted, 5, 100, 110))
	p.want(ask(2, 1, 1), re(api.Full, 0, 0, 0))
	p.tick(2, 12)
	p.want(ask(2, 1, 1), re(api.Full, 0, 0, 0))
	p.tick(1, 13)
	p.want(ask(2, 1, 1), re(api.Granted, 6, 100, 113))
	p.want(ask(3, 1, 1), re(api.Full, 0, 0, 0))
	p.books(3, 6, 0, 0, 3)
	p.tick(1000, 1013)
	p.books(9, 0, 0, 0, 0)
}

// Sales have nothing to do with one another: each has its own clock.
func TestP2SeveralClocks(t *testing.T) {
	a, b := openPair(t, rightConfig()), openPair(t, rightConfig())
	a.want(ask(1, 7, 4), re(api.Granted, 1, 100, 10))
	b.want(ask(1, 7, 4), re(api.Granted, 1, 100, 10))
	a.want(ask(2, 8, 4), re(api.Queued, 2, 0, 20))
	b.want(ask(2, 8, 4), re(api.Queued, 2, 0, 20))
	a.tick(40, 40)
	b.look()
	a.books(5, 0, 0, 0, 0)
	b.books(1, 4, 0, 1, 2)
	c := openPair(t, rightConfig())
	c.books(5, 0, 0, 0, 0)
	b.tick(10, 10)
	a.want(ask(1, 7, 4), re(api.Granted, 3, 100, 50))
	b.want(ask(1, 7, 4), re(api.Granted, 1, 100, 10))
	c.want(ask(1, 7, 4), re(api.Granted, 1, 100, 10))
	a.look()
	b.look()
}

// Many orders and answers end in one tick. What took a step for each order at
// each time, or a step for each time, would not come to an end here.
func TestP16Many(t *testing.T) {
	const n = 50000
	c := wide(1, 1)
	c.Queue, c.Tokens, c.Lease, c.Wait, c.Keep = n, n, 1<<20, 1<<32, 1<<31
	s, e := sale.Open(c)
	if e != api.OK {
		t.Fatalf("Open = %d", e)
	}
	for i := range n {
		want := api.Queued
		if i == 0 {
			want = api.Granted
		}
		if got := send(s, ask(1+i, 1+i, 1)); got.Kind != want {
			t.Fatalf("Ask %d is answered %+v", i, got)
		}
	}
	// Each is held for 2 to the power of 20 in turn; behind 2 to the power of
	// 32 the 4097th is held, and the others are late.
	if got, e := s.Tick(1 << 32); got != 1<<32 || e != api.OK {
		t.Fatalf("Tick = %d, %d", got, e)
	}
	for _, known := range []struct {
		number int
		want   api.Reply
	}{
		{1, re(api.Unknown, 0, 0, 0)}, {2048, re(api.Unknown, 0, 0, 0)}, {2049, re(api.Lapsed, 2049, 0, 0)}, {4096, re(api.Lapsed, 4096, 0, 0)},
		{4097, re(api.Held, 4097, 100, 1<<32+1<<20)}, {4098, re(api.Late, 4098, 0, 0)}, {n, re(api.Late, n, 0, 0)},
	} {
		if got := send(s, poll(known.number, known.number)); got != known.want {
			t.Errorf("order %d: %+v, want %+v", known.number, got, known.want)
		}
	}
	if b := s.Books(); b != (api.Books{Held: 1}) {
		t.Errorf("Books() = %+v", b)
	}
	if got, e := s.Tick(math.MaxInt); got != api.MaxClock || e != api.OK {
		t.Fatalf("Tick = %d, %d", got, e)
	}
	if got := send(s, ask(1, 1, 1)); got != re(api.Granted, n+1, 100, api.MaxClock+1<<20) {
		t.Errorf("the next Ask is answered %+v", got)
	}
}
