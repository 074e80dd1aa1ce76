package sale

import "sale/api"

// left is how many units are not sold, which is the most that can come free.
func (s *Sale) left() int { return s.config.Stock - s.ledger.sold }

func (s *Sale) free() int { return s.config.Stock - s.ledger.sold - s.ledger.held }

// price is what a unit costs that becomes Held now.
func (s *Sale) price() int {
	cents := 0
	for i := 0; i < len(s.config.Prices); i++ {
		if s.config.Prices[i].From <= s.ledger.sold {
			cents = s.config.Prices[i].Cents
		}
	}
	return cents
}

// newOrder numbers an order; it is in no state until it is moved into one.
func (s *Sale) newOrder(r api.Request) order {
	s.last = s.last + 1
	return order{number: s.last, customer: r.Customer, units: r.Units}
}

// move brings an order into another state, and tells it as it is then. Every
// change of a state goes this way, so that the queue, the ledger and the
// timers cannot fall behind.
func (s *Sale) move(o order, state int) order {
	if o.state == api.Waiting {
		s.queue.remove(o)
	}
	s.ledger.add(o.customer, o.state, -o.units)
	o.state = state
	s.ledger.add(o.customer, o.state, o.units)
	if o.state == api.Waiting {
		s.queue.add(o)
	}
	o.until = s.clock + s.span(state)
	s.timers.Unset(o.number) // a new order has none, nor has one whose timer just went off
	s.timers.Set(o.number, o.until)
	s.orders.put(o)
	return o
}

// span is how long an order stays in a state if nothing is sent; one that has
// ended stays until it is forgotten.
func (s *Sale) span(state int) int {
	switch state {
	case api.Held:
		return s.config.Lease
	case api.Waiting:
		return s.config.Wait
	}
	return s.config.Keep
}

// hold makes an order Held.
func (s *Sale) hold(o order) order {
	o.cents = s.price()
	return s.move(o, api.Held)
}

// promote is the promotion. Each turn takes an order out of the queue, so that
// it ends.
func (s *Sale) promote() {
	o, some := s.firstInQueue()
	for some && o.units <= s.free() {
		s.hold(o)
		o, some = s.firstInQueue()
	}
}

// drain ends the orders that wait for more than can come (P12).
func (s *Sale) drain() {
	o, some := s.greatestInQueue()
	for some && o.units > s.left() {
		s.move(o, api.Drained)
		o, some = s.greatestInQueue()
	}
}

func (s *Sale) firstInQueue() (order, bool) {
	number, some := s.queue.first()
	if !some {
		return order{}, false
	}
	return s.orders.get(number)
}

func (s *Sale) greatestInQueue() (order, bool) {
	number, some := s.queue.greatest()
	if !some {
		return order{}, false
	}
	return s.orders.get(number)
}
