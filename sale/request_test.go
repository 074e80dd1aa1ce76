package sale_test

import (
	"testing"

	"sale/api"
)

// wide is a configuration in which only Stock and Cap are soon met.
func wide(stock, most int) api.Config {
	return api.Config{
		Stock: stock, Cap: most, Queue: 50, Lease: 10, Wait: 20, Keep: 30, Tokens: 1000,
		Prices: []api.Tier{{From: 0, Cents: 100}},
	}
}

func TestP11OverCap(t *testing.T) {
	p := openPair(t, wide(10, 4))
	p.want(ask(1, 1, 5), re(api.OverCap, 0, 0, 0))
	p.want(ask(2, 1, api.MaxNumber), re(api.OverCap, 0, 0, 0))
	p.books(10, 0, 0, 0, 2)
	p.want(ask(3, 1, 4), re(api.Granted, 1, 100, 10)) // just Cap
	p.want(ask(4, 1, 1), re(api.OverCap, 0, 0, 0))
	p.want(ask(5, 2, 4), re(api.Granted, 2, 100, 10)) // another's units do not count
	p.want(ask(6, 3, 3), re(api.Queued, 3, 0, 20))
	p.want(ask(7, 3, 2), re(api.OverCap, 0, 0, 0)) // 3 wait
	p.want(ask(8, 3, 1), re(api.Queued, 4, 0, 20))
	p.want(ask(9, 3, 1), re(api.OverCap, 0, 0, 0)) // 3 and 1 wait
	p.want(confirm(10, 1, 1), re(api.Confirmed, 1, 400, 0))
	p.want(ask(11, 1, 1), re(api.OverCap, 0, 0, 0)) // what is sold counts
	p.want(cancel(12, 2, 2), re(api.Cancelled, 2, 0, 0))
	p.account(3, 4, 0, 0)
	p.want(ask(13, 3, 1), re(api.OverCap, 0, 0, 0))
	p.want(ask(14, 2, 5), re(api.OverCap, 0, 0, 0))
	p.want(ask(15, 2, 2), re(api.Granted, 5, 100, 10)) // what was cancelled does not count
}

// A customer's units of all three states count together.
func TestP11OverCapOfThreeStates(t *testing.T) {
	p := openPair(t, wide(6, 5))
	p.want(ask(1, 1, 1), re(api.Granted, 1, 100, 10))
	p.want(ask(2, 1, 1), re(api.Granted, 2, 100, 10))
	p.want(ask(3, 2, 4), re(api.Granted, 3, 100, 10))
	p.want(ask(4, 1, 2), re(api.Queued, 4, 0, 20))
	p.want(confirm(5, 1, 1), re(api.Confirmed, 1, 100, 0))
	p.account(1, 1, 1, 2)
	p.want(ask(6, 1, 2), re(api.OverCap, 0, 0, 0))
	p.want(ask(7, 1, 1), re(api.Queued, 5, 0, 20))
	p.account(1, 1, 1, 3)
}

func TestP11SoldOut(t *testing.T) {
	p := openPair(t, wide(5, 10))
	p.want(ask(1, 1, 6), re(api.SoldOut, 0, 0, 0))
	p.want(ask(2, 1, 5), re(api.Granted, 1, 100, 10))
	p.want(ask(3, 2, 6), re(api.SoldOut, 0, 0, 0))
	p.want(ask(4, 2, 5), re(api.Queued, 2, 0, 20)) // what is held may come free
	p.want(cancel(5, 2, 2), re(api.Cancelled, 2, 0, 0))
	p.want(cancel(6, 1, 1), re(api.Cancelled, 1, 0, 0))
	p.want(ask(7, 1, 2), re(api.Granted, 3, 100, 10))
	p.want(confirm(8, 1, 3), re(api.Confirmed, 3, 200, 0))
	p.want(ask(9, 2, 4), re(api.SoldOut, 0, 0, 0))
	p.want(ask(10, 2, 3), re(api.Granted, 4, 100, 10)) // just what is left
	p.want(confirm(11, 2, 4), re(api.Confirmed, 4, 300, 0))
	p.want(ask(12, 3, 1), re(api.SoldOut, 0, 0, 0))
	p.books(0, 0, 5, 0, 12)
}

func TestP11GrantedOrQueued(t *testing.T) {
	p := openPair(t, wide(5, 5))
	p.want(ask(1, 1, 2), re(api.Granted, 1, 100, 10))
	p.want(ask(2, 2, 3), re(api.Granted, 2, 100, 10)) // just what is free
	p.want(ask(3, 3, 1), re(api.Queued, 3, 0, 20))
	p.want(cancel(4, 3, 3), re(api.Cancelled, 3, 0, 0))
	p.want(cancel(5, 1, 1), re(api.Cancelled, 1, 0, 0))
	p.want(ask(6, 4, 3), re(api.Queued, 4, 0, 20)) // 2 are free
	p.want(ask(7, 5, 1), re(api.Queued, 5, 0, 20)) // would be free, but somebody waits
	p.want(ask(8, 5, 2), re(api.Queued, 6, 0, 20))
	p.books(2, 3, 0, 3, 8)
	p.want(cancel(9, 4, 4), re(api.Cancelled, 4, 0, 0))
	p.want(poll(5, 5), re(api.Held, 5, 100, 10))
	p.want(poll(5, 6), re(api.Waiting, 6, 0, 20)) // 1 is free
	p.want(ask(10, 6, 1), re(api.Queued, 7, 0, 20))
	p.want(cancel(11, 5, 6), re(api.Cancelled, 6, 0, 0))
	p.want(poll(6, 7), re(api.Held, 7, 100, 10))
	p.want(cancel(12, 6, 7), re(api.Cancelled, 7, 0, 0))
	p.want(ask(13, 7, 1), re(api.Granted, 8, 100, 10)) // nobody waits any more
}

func TestP11Busy(t *testing.T) {
	for queue := 1; queue <= 4; queue++ {
		c := wide(5, 5)
		c.Queue = queue
		p := openPair(t, c)
		p.want(ask(1, 1, 4), re(api.Granted, 1, 100, 10))
		for i := range queue {
			p.want(ask(10+i, 10+i, 2), re(api.Queued, 2+i, 0, 20))
		}
		p.want(ask(2, 2, 2), re(api.Busy, 0, 0, 0))
		p.want(ask(3, 2, 1), re(api.Busy, 0, 0, 0)) // 1 is free, but somebody waits
		p.want(cancel(4, 10, 2), re(api.Cancelled, 2, 0, 0))
		p.want(ask(5, 2, 2), re(api.Queued, queue+2, 0, 20)) // there is room again, and no number was lost
		p.want(ask(6, 3, 2), re(api.Busy, 0, 0, 0))
		p.want(ask(2, 2, 2), re(api.Busy, 0, 0, 0)) // as was answered before
		p.books(1, 4, 0, queue, 6+queue)
	}
}

// Where several cases apply, the first counts.
func TestP11TheFirstThatApplies(t *testing.T) {
	c := wide(5, 4)
	c.Queue = 1
	p := openPair(t, c)
	p.want(ask(1, 1, 6), re(api.OverCap, 0, 0, 0)) // and SoldOut
	p.want(ask(2, 1, 2), re(api.Granted, 1, 100, 10))
	p.want(confirm(3, 1, 1), re(api.Confirmed, 1, 200, 0))
	p.want(ask(4, 1, 3), re(api.OverCap, 0, 0, 0)) // could be granted else
	p.want(ask(5, 2, 5), re(api.OverCap, 0, 0, 0)) // and SoldOut
	p.want(ask(6, 2, 4), re(api.SoldOut, 0, 0, 0)) // as much as the cap, 3 are left
	p.want(ask(7, 2, 2), re(api.Granted, 2, 100, 10))
	p.want(ask(8, 1, 3), re(api.OverCap, 0, 0, 0)) // could wait else
	p.want(ask(9, 3, 4), re(api.SoldOut, 0, 0, 0)) // could wait else
	p.want(ask(10, 3, 2), re(api.Queued, 3, 0, 20))
	p.want(ask(11, 1, 3), re(api.OverCap, 0, 0, 0)) // and Busy
	p.want(ask(12, 1, 6), re(api.OverCap, 0, 0, 0)) // and SoldOut and Busy
	p.want(ask(13, 4, 4), re(api.SoldOut, 0, 0, 0)) // and Busy
	p.want(ask(14, 4, 3), re(api.Busy, 0, 0, 0))
	p.books(1, 2, 2, 1, 14)
}

func TestP11NumbersOfOrders(t *testing.T) {
	p := openPair(t, wide(3, 3))
	p.want(ask(1, 5, 4), re(api.OverCap, 0, 0, 0))
	p.want(ask(2, 5, 1), re(api.Granted, 1, 100, 10)) // a refusal takes no number
	p.want(confirm(3, 5, 9), re(api.Gone, 0, 0, 0))
	p.want(ask(4, 4, 3), re(api.Queued, 2, 0, 20))
	p.want(ask(5, 5, 1), re(api.Queued, 3, 0, 20))
	p.want(cancel(6, 5, 3), re(api.Cancelled, 3, 0, 0))
	p.want(ask(7, 5, 2), re(api.Queued, 4, 0, 20)) // 3 is not used again
}

func TestP11Prices(t *testing.T) {
	c := wide(20, 20)
	c.Prices = tiers([][2]int{{0, 50}, {3, 70}, {4, 20}, {10, 90}})
	p := openPair(t, c)
	p.want(ask(1, 1, 2), re(api.Granted, 1, 50, 10))
	p.want(ask(2, 1, 1), re(api.Granted, 2, 50, 10)) // what is held is not sold
	p.want(ask(3, 1, 9), re(api.Granted, 3, 50, 10))
	p.want(confirm(4, 1, 1), re(api.Confirmed, 1, 100, 0))
	p.want(ask(5, 2, 1), re(api.Granted, 4, 50, 10)) // 2 are sold
	p.want(confirm(6, 1, 2), re(api.Confirmed, 2, 50, 0))
	p.want(ask(7, 2, 1), re(api.Granted, 5, 70, 10)) // 3 are sold
	p.want(confirm(8, 2, 4), re(api.Confirmed, 4, 50, 0))
	p.want(ask(9, 2, 1), re(api.Granted, 6, 20, 10))        // 4 are sold
	p.want(confirm(10, 1, 3), re(api.Confirmed, 3, 450, 0)) // at the price of its moment
	p.want(ask(11, 2, 2), re(api.Granted, 7, 90, 10))       // 13 are sold
	p.want(poll(2, 5), re(api.Held, 5, 70, 10))
	p.want(confirm(12, 2, 5), re(api.Confirmed, 5, 70, 0))
	p.want(poll(2, 5), re(api.Sold, 5, 70, 0))
	p.want(confirm(13, 2, 7), re(api.Confirmed, 7, 180, 0))
	p.want(poll(2, 7), re(api.Sold, 7, 180, 0))
	p.want(poll(2, 6), re(api.Held, 6, 20, 10))
}

// The price of an order that waited is that of its promotion, once the Confirm
// that led to it counts as sold.
func TestP12PriceOfPromotion(t *testing.T) {
	c := wide(6, 6)
	c.Prices = tiers([][2]int{{0, 50}, {2, 70}, {6, 1}})
	p := openPair(t, c)
	p.want(ask(1, 1, 2), re(api.Granted, 1, 50, 10))
	p.want(ask(2, 2, 3), re(api.Granted, 2, 50, 10))
	p.want(ask(3, 3, 5), re(api.Queued, 3, 0, 20))
	p.want(ask(4, 4, 1), re(api.Queued, 4, 0, 20))
	p.want(ask(5, 5, 2), re(api.Queued, 5, 0, 20))
	p.want(confirm(6, 1, 1), re(api.Confirmed, 1, 100, 0))
	p.want(poll(3, 3), re(api.Drained, 3, 0, 0)) // 4 are left
	p.want(poll(4, 4), re(api.Held, 4, 70, 10))
	p.want(poll(5, 5), re(api.Waiting, 5, 0, 20))
	p.want(cancel(7, 2, 2), re(api.Cancelled, 2, 0, 0))
	p.want(poll(5, 5), re(api.Held, 5, 70, 10))
}

func TestP12ConfirmGone(t *testing.T) {
	p := openPair(t, wide(6, 6))
	p.want(confirm(1, 1, 1), re(api.Gone, 0, 0, 0)) // there is no order yet
	p.want(ask(2, 1, 4), re(api.Granted, 1, 100, 10))
	p.want(ask(3, 2, 4), re(api.Queued, 2, 0, 20))
	p.want(ask(4, 1, 2), re(api.Queued, 3, 0, 20))
	p.want(confirm(5, 2, 1), re(api.Gone, 0, 0, 0)) // it is another's
	p.want(confirm(6, 3, 1), re(api.Gone, 0, 0, 0)) // of a customer who has none
	p.want(confirm(7, 2, 2), re(api.Gone, 0, 0, 0)) // it waits
	p.want(confirm(8, 1, 4), re(api.Gone, 0, 0, 0)) // no order has this number
	p.want(confirm(9, 1, api.MaxNumber), re(api.Gone, 0, 0, 0))
	p.books(2, 4, 0, 2, 9)
	p.want(confirm(10, 1, 1), re(api.Confirmed, 1, 400, 0))
	p.want(poll(2, 2), re(api.Drained, 2, 0, 0))
	p.want(confirm(11, 1, 1), re(api.Gone, 0, 0, 0)) // it is sold
	p.want(confirm(12, 2, 2), re(api.Gone, 0, 0, 0)) // it is drained
	p.want(cancel(13, 1, 3), re(api.Cancelled, 3, 0, 0))
	p.want(confirm(14, 1, 3), re(api.Gone, 0, 0, 0)) // it is dropped
	p.books(2, 0, 4, 0, 14)
}

func TestP12CancelGone(t *testing.T) {
	p := openPair(t, wide(6, 6))
	p.want(cancel(1, 1, 1), re(api.Gone, 0, 0, 0))
	p.want(ask(2, 1, 4), re(api.Granted, 1, 100, 10))
	p.want(ask(3, 2, 4), re(api.Queued, 2, 0, 20))
	p.want(ask(4, 3, 2), re(api.Queued, 3, 0, 20))
	p.want(cancel(5, 2, 1), re(api.Gone, 0, 0, 0)) // another's that is held
	p.want(cancel(6, 1, 2), re(api.Gone, 0, 0, 0)) // another's that waits
	p.want(cancel(7, 1, 4), re(api.Gone, 0, 0, 0))
	p.want(cancel(8, 1, api.MaxNumber), re(api.Gone, 0, 0, 0))
	p.books(2, 4, 0, 2, 8)
	p.want(cancel(9, 3, 3), re(api.Cancelled, 3, 0, 0))
	p.want(cancel(10, 3, 3), re(api.Gone, 0, 0, 0)) // it is dropped
	p.want(confirm(11, 1, 1), re(api.Confirmed, 1, 400, 0))
	p.want(cancel(12, 1, 1), re(api.Gone, 0, 0, 0)) // it is sold
	p.want(cancel(13, 2, 2), re(api.Gone, 0, 0, 0)) // it is drained
	p.books(2, 0, 4, 0, 13)
}

func TestP12CancelHeldAndWaiting(t *testing.T) {
	p := openPair(t, wide(6, 6))
	p.want(ask(1, 1, 5), re(api.Granted, 1, 100, 10))
	p.want(ask(2, 2, 2), re(api.Queued, 2, 0, 20))
	p.want(ask(3, 3, 6), re(api.Queued, 3, 0, 20))
	p.want(ask(4, 4, 1), re(api.Queued, 4, 0, 20))
	p.want(cancel(5, 3, 3), re(api.Cancelled, 3, 0, 0)) // in the midst of the queue
	p.books(1, 5, 0, 2, 5)
	p.account(3, 0, 0, 0)
	p.want(poll(3, 3), re(api.Dropped, 3, 0, 0))
	p.want(cancel(6, 2, 2), re(api.Cancelled, 2, 0, 0)) // the first: the next has its turn
	p.want(poll(4, 4), re(api.Held, 4, 100, 10))
	p.want(cancel(7, 1, 1), re(api.Cancelled, 1, 0, 0)) // it is held
	p.want(poll(1, 1), re(api.Dropped, 1, 0, 0))
	p.books(5, 1, 0, 0, 7)
}

// A Confirm frees nothing, but what it drains may have stood ahead of others.
func TestP12Drained(t *testing.T) {
	p := openPair(t, wide(10, 10))
	p.want(ask(1, 1, 3), re(api.Granted, 1, 100, 10))
	p.want(ask(2, 1, 4), re(api.Granted, 2, 100, 10))
	p.want(ask(3, 2, 8), re(api.Queued, 3, 0, 20))
	p.want(ask(4, 3, 1), re(api.Queued, 4, 0, 20))
	p.want(ask(5, 4, 10), re(api.Queued, 5, 0, 20))
	p.want(ask(6, 5, 7), re(api.Queued, 6, 0, 20))
	p.want(ask(7, 6, 8), re(api.Queued, 7, 0, 20))
	p.want(ask(8, 7, 2), re(api.Queued, 8, 0, 20))
	p.want(confirm(9, 1, 1), re(api.Confirmed, 1, 300, 0))
	p.want(poll(2, 3), re(api.Drained, 3, 0, 0)) // 7 are left
	p.want(poll(3, 4), re(api.Held, 4, 100, 10))
	p.want(poll(4, 5), re(api.Drained, 5, 0, 0))
	p.want(poll(5, 6), re(api.Waiting, 6, 0, 20)) // just as many as are left
	p.want(poll(6, 7), re(api.Drained, 7, 0, 0))
	p.want(poll(7, 8), re(api.Waiting, 8, 0, 20)) // behind order 6
	p.books(2, 5, 3, 2, 9)
	p.account(2, 0, 0, 0)
	p.want(confirm(10, 3, 4), re(api.Confirmed, 4, 100, 0))
	p.want(poll(5, 6), re(api.Drained, 6, 0, 0)) // 6 are left
	p.want(poll(7, 8), re(api.Held, 8, 100, 10))
	p.books(0, 6, 4, 0, 10)
}

// An order that is held is never drained, however little is left.
func TestP12DrainedAreNotHeld(t *testing.T) {
	p := openPair(t, wide(6, 6))
	p.want(ask(1, 1, 1), re(api.Granted, 1, 100, 10))
	p.want(ask(2, 2, 5), re(api.Granted, 2, 100, 10))
	p.want(ask(3, 3, 6), re(api.Queued, 3, 0, 20))
	p.want(ask(4, 3, 5), re(api.OverCap, 0, 0, 0))
	p.want(ask(5, 4, 5), re(api.Queued, 4, 0, 20))
	p.want(confirm(6, 1, 1), re(api.Confirmed, 1, 100, 0))
	p.want(poll(2, 2), re(api.Held, 2, 100, 10))
	p.want(poll(3, 3), re(api.Drained, 3, 0, 0))
	p.want(poll(4, 4), re(api.Waiting, 4, 0, 20))
	p.want(ask(7, 3, 5), re(api.Queued, 5, 0, 20)) // what was drained is no unit of the customer
	p.want(confirm(8, 2, 2), re(api.Confirmed, 2, 500, 0))
	p.want(poll(4, 4), re(api.Drained, 4, 0, 0)) // nothing is left: all are drained
	p.want(poll(3, 5), re(api.Drained, 5, 0, 0))
	p.books(0, 0, 6, 0, 8)
}

// A Cancel drains nothing.
func TestP12CancelDrainsNothing(t *testing.T) {
	p := openPair(t, wide(6, 6))
	p.want(ask(1, 1, 2), re(api.Granted, 1, 100, 10))
	p.want(ask(2, 2, 2), re(api.Granted, 2, 100, 10))
	p.want(confirm(3, 1, 1), re(api.Confirmed, 1, 200, 0))
	p.want(ask(4, 3, 4), re(api.Queued, 3, 0, 20))
	p.want(ask(5, 4, 3), re(api.Queued, 4, 0, 20))
	p.want(cancel(6, 2, 2), re(api.Cancelled, 2, 0, 0))
	p.want(poll(3, 3), re(api.Held, 3, 100, 10)) // all that is left
	p.want(poll(4, 4), re(api.Waiting, 4, 0, 20))
}

func TestP12PromotionOfSeveral(t *testing.T) {
	p := openPair(t, wide(10, 10))
	p.want(ask(1, 1, 10), re(api.Granted, 1, 100, 10))
	for i, units := range []int{3, 1, 2, 4, 1, 1} {
		p.want(ask(2+i, 2+i, units), re(api.Queued, 2+i, 0, 20))
	}
	p.want(cancel(20, 1, 1), re(api.Cancelled, 1, 0, 0))
	for order := 2; order <= 5; order++ {
		if got := p.send(poll(order, order)); got != re(api.Held, order, 100, 10) {
			t.Errorf("order %d is %+v", order, got)
		}
	}
	p.want(poll(6, 6), re(api.Waiting, 6, 0, 20)) // nothing is free any more
	p.books(0, 10, 0, 2, 8)
	p.want(cancel(21, 3, 3), re(api.Cancelled, 3, 0, 0))
	p.want(poll(6, 6), re(api.Held, 6, 100, 10))
	p.want(poll(7, 7), re(api.Waiting, 7, 0, 20))
}

// A promotion stops at the first order that is too great, though a later one
// would fit.
func TestP12PromotionStops(t *testing.T) {
	p := openPair(t, wide(10, 10))
	p.want(ask(1, 1, 6), re(api.Granted, 1, 100, 10))
	p.want(ask(2, 2, 4), re(api.Granted, 2, 100, 10))
	p.want(ask(3, 3, 2), re(api.Queued, 3, 0, 20))
	p.want(ask(4, 4, 5), re(api.Queued, 4, 0, 20))
	p.want(ask(5, 5, 1), re(api.Queued, 5, 0, 20))
	p.want(cancel(6, 2, 2), re(api.Cancelled, 2, 0, 0))
	p.want(poll(3, 3), re(api.Held, 3, 100, 10))
	p.want(poll(4, 4), re(api.Waiting, 4, 0, 20)) // 2 are free
	p.want(poll(5, 5), re(api.Waiting, 5, 0, 20))
	p.want(ask(7, 6, 2), re(api.Queued, 6, 0, 20))
	p.want(cancel(8, 5, 5), re(api.Cancelled, 5, 0, 0)) // behind the first: nothing moves
	p.want(poll(6, 6), re(api.Waiting, 6, 0, 20))
	p.books(2, 8, 0, 2, 8)
}

func TestP13EachState(t *testing.T) {
	c := wide(10, 10)
	c.Prices = tiers([][2]int{{0, 30}, {1, 40}})
	p := openPair(t, c)
	p.want(poll(1, 1), re(api.Unknown, 0, 0, 0))
	p.want(ask(1, 1, 3), re(api.Granted, 1, 30, 10))
	p.want(ask(2, 2, 3), re(api.Granted, 2, 30, 10))
	p.want(ask(3, 3, 8), re(api.Queued, 3, 0, 20))
	p.want(ask(4, 4, 5), re(api.Queued, 4, 0, 20))
	p.want(ask(5, 5, 1), re(api.Queued, 5, 0, 20))
	p.want(ask(6, 6, 1), re(api.Queued, 6, 0, 20))
	p.want(cancel(7, 6, 6), re(api.Cancelled, 6, 0, 0))
	p.want(confirm(8, 1, 1), re(api.Confirmed, 1, 90, 0))
	p.want(poll(1, 1), re(api.Sold, 1, 90, 0))
	p.want(poll(2, 2), re(api.Held, 2, 30, 10))
	p.want(poll(3, 3), re(api.Drained, 3, 0, 0))
	p.want(poll(4, 4), re(api.Waiting, 4, 0, 20))
	p.want(poll(5, 5), re(api.Waiting, 5, 0, 20))
	p.want(poll(6, 6), re(api.Dropped, 6, 0, 0))
	p.want(cancel(9, 2, 2), re(api.Cancelled, 2, 0, 0))
	p.want(poll(2, 2), re(api.Dropped, 2, 0, 0)) // neither price nor Until any more
	p.want(poll(4, 4), re(api.Held, 4, 40, 10))
	p.want(poll(5, 5), re(api.Held, 5, 40, 10))
	p.books(1, 6, 3, 0, 9) // no Poll is remembered
}

func TestP13Unknown(t *testing.T) {
	p := openPair(t, wide(10, 10))
	p.want(ask(1, 7, 3), re(api.Granted, 1, 100, 10))
	p.want(ask(2, 8, 8), re(api.Queued, 2, 0, 20))
	p.want(ask(3, 8, 1), re(api.Queued, 3, 0, 20))
	p.want(cancel(4, 8, 3), re(api.Cancelled, 3, 0, 0))
	for customer := 1; customer < 12; customer++ {
		for number := 1; number < 12; number++ {
			known := number == 1 && customer == 7 || (number == 2 || number == 3) && customer == 8
			got := p.send(poll(customer, number))
			if (got != re(api.Unknown, 0, 0, 0)) != known {
				t.Errorf("Poll of order %d by customer %d = %+v", number, customer, got)
			}
		}
	}
	p.want(poll(api.MaxNumber, 1), re(api.Unknown, 0, 0, 0))
	p.want(poll(7, api.MaxNumber), re(api.Unknown, 0, 0, 0))
}
