// Package sale: a sale of few units to many customers: see DOC.md.
package sale

import (
	"sale/api"
	"sale/wheel"
)

// Sale is a sale that goes on.
type Sale struct {
	config  api.Config // its Prices are a list of the sale's own
	clock   int
	last    int          // the number of the newest order
	timers  *wheel.Wheel // by number: when an order's time in its state is over
	orders  orders
	queue   queue
	ledger  ledger
	answers answers
}

// Open opens a sale (P9).
func Open(c api.Config) (*Sale, api.Errno) {
	wrong := Check(c)
	if wrong != api.OK {
		return nil, wrong
	}
	// The caller may write into the list that was handed in.
	prices := append([]api.Tier{}, c.Prices...)
	c.Prices = prices
	timers := wheel.New(0)
	return &Sale{config: c, timers: timers, answers: newAnswers()}, api.OK
}

// Send answers a frame (P10 to P14).
func (s *Sale) Send(b []byte) api.Reply {
	r, wrong := Unpack(b)
	if wrong != api.OK {
		return api.Reply{Kind: api.Bad}
	}
	if r.Kind == api.Poll {
		return s.poll(r)
	}
	return s.answerOnce(r)
}

// answerOnce answers a request that bears a token, and does it unless that
// token was used (P14).
func (s *Sale) answerOnce(r api.Request) api.Reply {
	old, used := s.answers.get(r.Token)
	if used && old.request == r {
		return old.reply
	}
	if used {
		return api.Reply{Kind: api.Conflict}
	}
	if s.answers.size() >= s.config.Tokens {
		return api.Reply{Kind: api.Full}
	}
	reply := s.do(r)
	s.answers.add(answer{request: r, reply: reply}, s.clock+s.config.Keep)
	return reply
}

// Books tells of the units, the orders that wait, the answers that are remembered (P15).
func (s *Sale) Books() api.Books {
	return api.Books{
		Free:    s.free(),
		Held:    s.ledger.held,
		Sold:    s.ledger.sold,
		Waiting: s.queue.size(),
		Answers: s.answers.size(),
	}
}

// Account tells of a customer's units (P15).
func (s *Sale) Account(customer int) (api.Account, api.Errno) {
	if customer < 1 || customer > api.MaxNumber {
		return api.Account{}, api.ErrArg
	}
	return s.ledger.account(customer), api.OK
}

// Tick lets time go by (P16).
func (s *Sale) Tick(n int) (int, api.Errno) {
	if n < 0 {
		return 0, api.ErrArg
	}
	// The clock and n together may be more than an int can be.
	to := api.MaxClock
	if n < api.MaxClock-s.clock {
		to = s.clock + n
	}
	s.goOn(to)
	return s.clock, api.OK
}

// Clock tells the time (P16).
func (s *Sale) Clock() int { return s.clock }
