package sale_test

import (
	"math"
	"testing"

	"sale/api"
	"sale/sale"
)

// plain is a sale told in the plainest way: all orders and answers stay there,
// and whatever is asked is counted anew.
type plain struct {
	c       api.Config
	clock   int
	orders  []*plainOrder       // the first is number 1
	answers map[int]plainAnswer // by token, the last that was given
}

type plainOrder struct {
	customer, units, state, cents, until int
	ended                                int // when, if it has
}

type plainAnswer struct {
	frame string
	reply api.Reply
	given int
}

func newPlain(c api.Config) *plain {
	c.Prices = append([]api.Tier(nil), c.Prices...)
	return &plain{c: c, answers: map[int]plainAnswer{}}
}

func (m *plain) remembers(token int) bool {
	a, given := m.answers[token]
	return given && m.clock-a.given < m.c.Keep
}

func (m *plain) remembered() int {
	n := 0
	for token := range m.answers {
		if m.remembers(token) {
			n++
		}
	}
	return n
}

func (m *plain) end(o *plainOrder, state int) {
	o.state, o.ended = state, m.clock
}

// nextUntil is the first Until of an order that is Held or Waiting, MaxInt if
// there is none.
func (m *plain) nextUntil() int {
	next := math.MaxInt
	for _, o := range m.orders {
		if o.state == api.Held || o.state == api.Waiting {
			next = min(next, o.until)
		}
	}
	return next
}

// endAll ends all orders in a state whose Until is now.
func (m *plain) endAll(from, into int) {
	for _, o := range m.orders {
		if o.state == from && o.until == m.clock {
			m.end(o, into)
		}
	}
}

func (m *plain) tick(n int) (int, api.Errno) {
	if n < 0 {
		return 0, api.ErrArg
	}
	to := m.clock + min(n, api.MaxClock-m.clock)
	for m.nextUntil() <= to {
		m.clock = m.nextUntil()
		m.endAll(api.Held, api.Lapsed)
		m.promotion()
		m.endAll(api.Waiting, api.Late)
		m.promotion()
	}
	m.clock = to
	return m.clock, api.OK
}

// sum is the units of all orders in a state, of one customer or, if that is 0, of all.
func (m *plain) sum(state, customer int) int {
	n := 0
	for _, o := range m.orders {
		if o.state == state && (customer == 0 || o.customer == customer) {
			n += o.units
		}
	}
	return n
}

func (m *plain) books() api.Books {
	b := api.Books{Held: m.sum(api.Held, 0), Sold: m.sum(api.Sold, 0), Answers: m.remembered()}
	b.Free = m.c.Stock - b.Held - b.Sold
	for _, o := range m.orders {
		if o.state == api.Waiting {
			b.Waiting++
		}
	}
	return b
}

func (m *plain) account(customer int) api.Account {
	return api.Account{Held: m.sum(api.Held, customer), Sold: m.sum(api.Sold, customer), Waiting: m.sum(api.Waiting, customer)}
}

func (m *plain) hold(o *plainOrder) {
	sold := m.sum(api.Sold, 0)
	for _, tier := range m.c.Prices {
		if tier.From <= sold {
			o.cents = tier.Cents
		}
	}
	o.state, o.until = api.Held, m.clock+m.c.Lease
}

func (m *plain) promotion() {
	for _, o := range m.orders {
		if o.state != api.Waiting {
			continue
		}
		if o.units > m.books().Free {
			return
		}
		m.hold(o)
	}
}

// order is the order of a number and a customer, nil if there is none.
func (m *plain) order(number, customer int) *plainOrder {
	if number < 1 || number > len(m.orders) || m.orders[number-1].customer != customer {
		return nil
	}
	return m.orders[number-1]
}

func (m *plain) ask(r api.Request) api.Reply {
	b, a := m.books(), m.account(r.Customer)
	o := &plainOrder{customer: r.Customer, units: r.Units}
	number := len(m.orders) + 1
	if a.Held+a.Sold+a.Waiting+r.Units > m.c.Cap {
		return re(api.OverCap, 0, 0, 0)
	}
	if r.Units > m.c.Stock-b.Sold {
		return re(api.SoldOut, 0, 0, 0)
	}
	if b.Waiting == 0 && r.Units <= b.Free {
		m.hold(o)
		m.orders = append(m.orders, o)
		return re(api.Granted, number, o.cents, o.until)
	}
	if b.Waiting == m.c.Queue {
		return re(api.Busy, 0, 0, 0)
	}
	o.state, o.until = api.Waiting, m.clock+m.c.Wait
	m.orders = append(m.orders, o)
	return re(api.Queued, number, 0, o.until)
}

func (m *plain) confirm(r api.Request) api.Reply {
	o := m.order(r.Order, r.Customer)
	if o == nil || o.state != api.Held {
		return re(api.Gone, 0, 0, 0)
	}
	m.end(o, api.Sold)
	for _, w := range m.orders {
		if w.state == api.Waiting && w.units > m.c.Stock-m.sum(api.Sold, 0) {
			m.end(w, api.Drained)
		}
	}
	m.promotion()
	return re(api.Confirmed, r.Order, o.units*o.cents, 0)
}

func (m *plain) cancel(r api.Request) api.Reply {
	o := m.order(r.Order, r.Customer)
	if o == nil || o.state != api.Held && o.state != api.Waiting {
		return re(api.Gone, 0, 0, 0)
	}
	m.end(o, api.Dropped)
	m.promotion()
	return re(api.Cancelled, r.Order, 0, 0)
}

func (m *plain) poll(r api.Request) api.Reply {
	o := m.order(r.Order, r.Customer)
	switch {
	case o == nil:
		return re(api.Unknown, 0, 0, 0)
	case o.state == api.Waiting:
		return re(api.Waiting, r.Order, 0, o.until)
	case o.state == api.Held:
		return re(api.Held, r.Order, o.cents, o.until)
	case m.clock-o.ended >= m.c.Keep:
		return re(api.Unknown, 0, 0, 0)
	case o.state == api.Sold:
		return re(api.Sold, r.Order, o.units*o.cents, 0)
	}
	return re(o.state, r.Order, 0, 0)
}

func (m *plain) send(b []byte) api.Reply {
	r, ok := wantRequest(b)
	if !ok {
		return re(api.Bad, 0, 0, 0)
	}
	if r.Kind == api.Poll {
		return m.poll(r)
	}
	if m.remembers(r.Token) {
		if a := m.answers[r.Token]; a.frame == string(b) {
			return a.reply
		}
		return re(api.Conflict, 0, 0, 0)
	}
	if m.remembered() == m.c.Tokens {
		return re(api.Full, 0, 0, 0)
	}
	var reply api.Reply
	switch r.Kind {
	case api.Ask:
		reply = m.ask(r)
	case api.Confirm:
		reply = m.confirm(r)
	case api.Cancel:
		reply = m.cancel(r)
	}
	m.answers[r.Token] = plainAnswer{frame: string(b), reply: reply, given: m.clock}
	return reply
}

// pair is a sale and the plain one. Each call is made of both, and all that
// the sale tells is compared behind it.
type pair struct {
	t *testing.T
	s *sale.Sale
	m *plain
}

func openPair(t *testing.T, c api.Config) *pair {
	t.Helper()
	s, e := sale.Open(c)
	if e != api.OK || s == nil {
		t.Fatalf("Open(%+v) = %v, %d", c, s, e)
	}
	p := &pair{t: t, s: s, m: newPlain(c)}
	p.look()
	return p
}

// sendBytes sends a copy of the bytes, with something in the spare room, and
// writes into it behind the call.
func (p *pair) sendBytes(b []byte) api.Reply {
	p.t.Helper()
	room := append(append([]byte{}, b...), 3, 128, 0, 1)
	got := p.s.Send(room[:len(b)])
	if string(room[:len(b)]) != string(b) || string(room[len(b):]) != "\x03\x80\x00\x01" {
		p.t.Fatalf("Send(%v) wrote into the list or its spare room: %v", b, room)
	}
	for i := range room {
		room[i] = 1
	}
	if want := p.m.send(b); got != want {
		p.t.Fatalf("Send(%v) = %+v, want %+v", b, got, want)
	}
	return got
}

// send makes a request, compares, and tells the reply.
func (p *pair) send(r api.Request) api.Reply {
	p.t.Helper()
	b, e := sale.Pack(r)
	if e != api.OK {
		p.t.Fatalf("Pack(%+v) = %d", r, e)
	}
	got := p.sendBytes(b)
	p.look()
	return got
}

// want makes a request whose reply the test knows.
func (p *pair) want(r api.Request, want api.Reply) {
	p.t.Helper()
	if got := p.send(r); got != want {
		p.t.Fatalf("%+v is answered %+v, want %+v", r, got, want)
	}
}

// tick lets time go by, behind which the clock must be at a time.
func (p *pair) tick(n, want int) {
	p.t.Helper()
	got, e := p.s.Tick(n)
	if plain, _ := p.m.tick(n); got != want || e != api.OK || plain != want {
		p.t.Fatalf("Tick(%d) = %d, %d, want %d (the plain sale: %d)", n, got, e, want, plain)
	}
	p.look()
}

// look compares the clock, the books, all accounts and all orders, each also
// as seen by another customer. It looks twice: to look changes nothing.
func (p *pair) look() {
	p.t.Helper()
	for range 2 {
		p.lookAtBooks()
		customers := map[int]bool{1: true, 2: true, api.MaxNumber: true}
		for i, o := range p.m.orders {
			customers[o.customer] = true
			p.lookAtOrder(o.customer, i+1)
			p.lookAtOrder(o.customer%api.MaxNumber+1, i+1)
		}
		for customer := range customers {
			p.lookAtAccount(customer)
			p.lookAtOrder(customer, len(p.m.orders)+1)
			p.lookAtOrder(customer, api.MaxNumber)
		}
		for _, customer := range []int{0, -1, api.MaxNumber + 1, math.MaxInt, math.MinInt} {
			if a, e := p.s.Account(customer); a != (api.Account{}) || e != api.ErrArg {
				p.t.Fatalf("Account(%d) = %+v, %d", customer, a, e)
			}
		}
	}
}

func (p *pair) lookAtBooks() {
	p.t.Helper()
	if n := p.s.Clock(); n != p.m.clock {
		p.t.Fatalf("Clock() = %d, want %d", n, p.m.clock)
	}
	if b, want := p.s.Books(), p.m.books(); b != want {
		p.t.Fatalf("Books() = %+v, want %+v", b, want)
	}
}

func (p *pair) lookAtAccount(customer int) {
	p.t.Helper()
	want := p.m.account(customer)
	if a, e := p.s.Account(customer); a != want || e != api.OK {
		p.t.Fatalf("Account(%d) = %+v, %d, want %+v", customer, a, e, want)
	}
}

func (p *pair) lookAtOrder(customer, number int) {
	p.t.Helper()
	r := poll(customer, number)
	b, _ := sale.Pack(r)
	if got, want := p.s.Send(b), p.m.poll(r); got != want {
		p.t.Fatalf("%+v is answered %+v, want %+v", r, got, want)
	}
}

// books and account compare with what the test knows.
func (p *pair) books(free, held, sold, waiting, answers int) {
	p.t.Helper()
	want := api.Books{Free: free, Held: held, Sold: sold, Waiting: waiting, Answers: answers}
	if b := p.s.Books(); b != want {
		p.t.Fatalf("Books() = %+v, want %+v", b, want)
	}
}

func (p *pair) account(customer, held, sold, waiting int) {
	p.t.Helper()
	want := api.Account{Held: held, Sold: sold, Waiting: waiting}
	if a, e := p.s.Account(customer); a != want || e != api.OK {
		p.t.Fatalf("Account(%d) = %+v, %d, want %+v", customer, a, e, want)
	}
}

func ask(token, customer, units int) api.Request {
	return api.Request{Kind: api.Ask, Token: token, Customer: customer, Units: units}
}

func confirm(token, customer, order int) api.Request {
	return api.Request{Kind: api.Confirm, Token: token, Customer: customer, Order: order}
}

func cancel(token, customer, order int) api.Request {
	return api.Request{Kind: api.Cancel, Token: token, Customer: customer, Order: order}
}

func poll(customer, order int) api.Request {
	return api.Request{Kind: api.Poll, Customer: customer, Order: order}
}

func re(kind, order, cents, until int) api.Reply {
	return api.Reply{Kind: kind, Order: order, Cents: cents, Until: until}
}
