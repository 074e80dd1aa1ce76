package sale

import "sale/api"

// goOn brings the clock to a time that is not over, and stops on the way at
// each time that is an order's. Each stop takes at least one timer off, and an
// order has three at most, one behind the other (Waiting, Held, ended), so
// that it ends.
func (s *Sale) goOn(to int) {
	first, some := s.timers.First()
	for some && first.At <= to {
		s.clock = first.At
		s.stop()
		first, some = s.timers.First()
	}
	s.clock = to
	s.answers.forget(to)
}

// stop does what is due now. What ended earlier is forgotten first: later it
// could not be told from what ends now.
func (s *Sale) stop() {
	dues, _ := s.timers.Advance(s.clock)
	s.forget(dues)
	s.end(dues, api.Held, api.Lapsed)
	s.promote()
	s.end(dues, api.Waiting, api.Late)
	s.promote()
}

// forget takes away the orders that ended so long ago that none needs to know
// of them (P13).
func (s *Sale) forget(dues []api.Due) {
	for i := 0; i < len(dues); i++ {
		o, known := s.orders.get(dues[i].ID)
		if known && o.hasEnded() {
			s.orders.remove(o.number)
		}
	}
}

// end brings the orders that are due, and are still in the one state, into the
// other.
func (s *Sale) end(dues []api.Due, from int, into int) {
	for i := 0; i < len(dues); i++ {
		o, known := s.orders.get(dues[i].ID)
		if known && o.state == from {
			s.move(o, into)
		}
	}
}
