package sale

import "sale/api"

// do does what an Ask, a Confirm or a Cancel wants, and tells the reply.
func (s *Sale) do(r api.Request) api.Reply {
	switch r.Kind {
	case api.Ask:
		return s.ask(r)
	case api.Confirm:
		return s.confirm(r)
	}
	return s.cancel(r)
}

// ask answers by the first case that applies (P11).
func (s *Sale) ask(r api.Request) api.Reply {
	account := s.ledger.account(r.Customer)
	waiting := s.queue.size()
	switch {
	case account.Held+account.Sold+account.Waiting+r.Units > s.config.Cap:
		return api.Reply{Kind: api.OverCap}
	case r.Units > s.left():
		return api.Reply{Kind: api.SoldOut}
	case s.last >= api.MaxNumber:
		return api.Reply{Kind: api.Busy}
	case waiting == 0 && r.Units <= s.free():
		return s.grant(r)
	case waiting >= s.config.Queue:
		return api.Reply{Kind: api.Busy}
	}
	return s.enqueue(r)
}

func (s *Sale) grant(r api.Request) api.Reply {
	o := s.newOrder(r)
	o = s.hold(o)
	return api.Reply{Kind: api.Granted, Order: o.number, Cents: o.cents, Until: o.until}
}

func (s *Sale) enqueue(r api.Request) api.Reply {
	o := s.newOrder(r)
	o = s.move(o, api.Waiting)
	return api.Reply{Kind: api.Queued, Order: o.number, Until: o.until}
}

// confirm answers a Confirm (P12).
func (s *Sale) confirm(r api.Request) api.Reply {
	o, known := s.find(r)
	if !known || o.state != api.Held {
		return api.Reply{Kind: api.Gone}
	}
	s.move(o, api.Sold)
	s.drain()
	s.promote()
	return api.Reply{Kind: api.Confirmed, Order: o.number, Cents: o.units * o.cents}
}

// cancel answers a Cancel (P12).
func (s *Sale) cancel(r api.Request) api.Reply {
	o, known := s.find(r)
	if !known || o.state != api.Held && o.state != api.Waiting {
		return api.Reply{Kind: api.Gone}
	}
	s.move(o, api.Dropped)
	s.promote()
	return api.Reply{Kind: api.Cancelled, Order: o.number}
}

// poll answers a Poll (P13).
func (s *Sale) poll(r api.Request) api.Reply {
	o, known := s.find(r)
	if !known {
		return api.Reply{Kind: api.Unknown}
	}
	reply := api.Reply{Kind: o.state, Order: o.number}
	switch o.state {
	case api.Waiting:
		reply.Until = o.until
	case api.Held:
		reply.Cents = o.cents
		reply.Until = o.until
	case api.Sold:
		reply.Cents = o.units * o.cents
	}
	return reply
}

// find tells the order that a request names; false, if its customer has none
// of this number.
func (s *Sale) find(r api.Request) (order, bool) {
	o, known := s.orders.get(r.Order)
	if !known || o.customer != r.Customer {
		return order{}, false
	}
	return o, true
}
