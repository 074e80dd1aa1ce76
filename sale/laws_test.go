package sale_test

import (
	"math/rand"
	"testing"

	"sale/api"
	"sale/sale"
)

// seen is an order as a customer has seen it, from answers alone.
type seen struct {
	customer, units int
	came            int // when it was answered Granted or Queued
	price           int // 0, as long as none was told
	state           int // as it was told last
}

// law looks at a sale from outside, and at what must follow from the rest (P17
// to P21).
type law struct {
	t      *testing.T
	c      api.Config
	s      *sale.Sale
	orders []*seen
	sold   int // units that were answered Confirmed
}

func openLaw(t *testing.T, c api.Config) *law {
	t.Helper()
	s, e := sale.Open(c)
	if e != api.OK {
		t.Fatalf("Open(%+v) = %d", c, e)
	}
	return &law{t: t, c: c, s: s}
}

// send sends a request, and looks.
func (l *law) send(r api.Request) api.Reply {
	l.t.Helper()
	before := l.s.Books()
	reply := send(l.s, r)
	fresh := reply.Order > len(l.orders) // else it is an answer that was remembered
	switch reply.Kind {
	case api.Granted, api.Queued:
		if !fresh {
			break
		}
		if reply.Kind == api.Granted && before.Waiting > 0 {
			l.t.Fatalf("P18: %+v is answered %+v while somebody waits", r, reply)
		}
		l.orders = append(l.orders, &seen{customer: r.Customer, units: r.Units, came: l.s.Clock(), price: reply.Cents})
	case api.Confirmed:
		o := l.orders[reply.Order-1]
		if o.state == api.Held {
			l.sold += o.units
		}
		if reply.Cents != o.price*o.units {
			l.t.Fatalf("P21: %+v is answered %+v, the price was %d, the units %d", r, reply, o.price, o.units)
		}
	}
	l.look()
	return reply
}

func (l *law) tick(n int) {
	l.t.Helper()
	l.s.Tick(n)
	l.look()
}

// look looks at all orders, and at the books and accounts.
func (l *law) look() {
	l.t.Helper()
	wasWaiting := false // an order ahead of this one, and it is still
	for i, o := range l.orders {
		reply := send(l.s, poll(o.customer, i+1))
		l.lookAtOrder(o, reply)
		if reply.Kind == api.Held && o.state != api.Held && wasWaiting {
			l.t.Fatalf("P18: order %d became Held while one ahead of it waits", i+1)
		}
		if reply.Kind == api.Waiting && o.state == api.Waiting {
			wasWaiting = true
		}
		o.state = reply.Kind
	}
	l.lookAtSums()
}

func (l *law) lookAtOrder(o *seen, reply api.Reply) {
	l.t.Helper()
	clock := l.s.Clock()
	alive := reply.Kind == api.Held || reply.Kind == api.Waiting
	if alive && reply.Until <= clock {
		l.t.Fatalf("P17: at %d an order is told %+v", clock, reply)
	}
	if reply.Kind == api.Waiting && (o.state != 0 && o.state != api.Waiting || clock >= o.came+l.c.Wait) {
		l.t.Fatalf("P20: at %d an order that came at %d, and was told %d, waits", clock, o.came, o.state)
	}
	if reply.Kind == api.Held && o.price == 0 {
		o.price = reply.Cents
	}
	if reply.Kind == api.Held && reply.Cents != o.price || reply.Kind == api.Sold && reply.Cents != o.price*o.units {
		l.t.Fatalf("P21: an order is told %+v, its price was %d, its units %d", reply, o.price, o.units)
	}
}

func (l *law) lookAtSums() {
	l.t.Helper()
	b := l.s.Books()
	if b.Free < 0 || b.Held < 0 || b.Sold < 0 || b.Free+b.Held+b.Sold != l.c.Stock {
		l.t.Fatalf("P17: Books() = %+v of stock %d", b, l.c.Stock)
	}
	if b.Waiting > l.c.Queue || b.Answers > l.c.Tokens || b.Sold != l.sold {
		l.t.Fatalf("P17: Books() = %+v, where %+v, and %d were answered Confirmed", b, l.c, l.sold)
	}
	for customer := 1; customer <= 5; customer++ {
		a, _ := l.s.Account(customer)
		if a.Held < 0 || a.Sold < 0 || a.Waiting < 0 || a.Held+a.Sold+a.Waiting > l.c.Cap {
			l.t.Fatalf("P17: Account(%d) = %+v, where the cap is %d", customer, a, l.c.Cap)
		}
	}
}

// same compares all that two sales tell.
func (l *law) same(other *law, why string) {
	l.t.Helper()
	if a, b := l.s.Clock(), other.s.Clock(); a != b {
		l.t.Fatalf("%s: the clocks are %d and %d", why, a, b)
	}
	if a, b := l.s.Books(), other.s.Books(); a != b {
		l.t.Fatalf("%s: the books are %+v and %+v", why, a, b)
	}
	for customer := 1; customer <= 5; customer++ {
		a, _ := l.s.Account(customer)
		b, _ := other.s.Account(customer)
		if a != b {
			l.t.Fatalf("%s: the accounts of %d are %+v and %+v", why, customer, a, b)
		}
		for number := 1; number <= len(l.orders)+1; number++ {
			r := poll(customer, number)
			if a, b := send(l.s, r), send(other.s, r); a != b {
				l.t.Fatalf("%s: %+v is answered %+v and %+v", why, r, a, b)
			}
		}
	}
}

// sent is a request that was answered, and when.
type sent struct {
	r     api.Request
	reply api.Reply
	at    int
}

// copies sends once more some of what was sent, not yet Keep ago (P19).
func (l *law) copies(r *rand.Rand, all []sent) {
	l.t.Helper()
	for range r.Intn(3) {
		if len(all) == 0 {
			return
		}
		old := all[len(all)-1-r.Intn(min(len(all), 10))]
		if l.s.Clock() >= old.at+l.c.Keep || old.reply.Kind == api.Full {
			continue
		}
		if got := l.send(old.r); got != old.reply {
			l.t.Fatalf("P19: %+v was answered %+v at %d, and %+v at %d", old.r, old.reply, old.at, got, l.s.Clock())
		}
	}
}

// pieces lets time go by piece by piece (P22).
func (l *law) pieces(r *rand.Rand, n int) {
	l.t.Helper()
	for n > 0 {
		m := r.Intn(n + 1)
		if r.Intn(3) == 0 {
			m = 1
		}
		l.tick(m)
		n -= m
	}
}

// Three sales get the same; one gets the time in pieces, one gets copies too.
func TestP17ToP22Drawn(t *testing.T) {
	r := rand.New(rand.NewSource(7))
	met := map[int]int{}
	for range 250 {
		c := drawConfig(r)
		c.Keep += r.Intn(20)
		whole, inPieces, withCopies := openLaw(t, c), openLaw(t, c), openLaw(t, c)
		var all []sent
		for token := 1; token <= 70; token++ {
			n := drawTick(r)
			whole.tick(n)
			inPieces.pieces(r, n)
			withCopies.tick(n)
			withCopies.copies(r, all)

			q := drawLawful(r, token, whole)
			reply := whole.send(q)
			met[reply.Kind]++
			if got := inPieces.send(q); got != reply {
				t.Fatalf("P22: %+v is answered %+v and %+v", q, reply, got)
			}
			if got := withCopies.send(q); got != reply {
				t.Fatalf("P19: %+v is answered %+v and %+v", q, reply, got)
			}
			all = append(all, sent{r: q, reply: reply, at: whole.s.Clock()})
			whole.same(inPieces, "P22")
			whole.same(withCopies, "P19")
		}
		for _, o := range whole.orders {
			met[o.state]++
		}
	}
	for kind := api.Granted; kind <= api.Unknown; kind++ {
		if met[kind] == 0 && kind != api.Conflict {
			t.Errorf("no reply of kind %d was met: the draw is too narrow", kind)
		}
	}
}

// drawLawful draws a request with a token that was not used.
func drawLawful(r *rand.Rand, token int, l *law) api.Request {
	if len(l.orders) > 0 && r.Intn(3) == 0 {
		number := len(l.orders) - r.Intn(min(len(l.orders), 6))
		customer := l.orders[number-1].customer
		if r.Intn(3) > 0 {
			return confirm(token, customer, number)
		}
		return cancel(token, customer, number)
	}
	return ask(token, 1+r.Intn(5), 1+r.Intn(1+r.Intn(5)))
}

// One tick, that tick cut in two at each place, and steps of 1 do the same.
func TestP22EachCut(t *testing.T) {
	c := wide(6, 6)
	c.Lease, c.Wait, c.Keep = 7, 12, 15
	start := func() *law {
		l := openLaw(t, c)
		l.send(ask(1, 1, 4))
		l.tick(1)
		l.send(ask(2, 2, 3))
		l.send(ask(3, 3, 6))
		l.tick(2)
		l.send(ask(4, 4, 2))
		l.send(ask(5, 5, 1))
		l.send(ask(6, 1, 2))
		l.send(ask(7, 2, 3))
		return l
	}
	for n := range 60 {
		whole := start()
		whole.tick(n)
		ones := start()
		for range n {
			ones.tick(1)
		}
		whole.same(ones, "P22, in steps of 1")
		for cut := range n + 1 {
			two := start()
			two.tick(cut)
			two.tick(n - cut)
			whole.same(two, "P22, in two")
		}
	}
}

// Up to the clock's greatest a cut does the same as well.
func TestP22AtTheGreatestClock(t *testing.T) {
	const most = api.MaxClock
	for _, cut := range [][]int{{most}, {most, 1}, {most - 1, 2}, {1, most - 1}, {1, most}, {most / 2, most / 2}, {most - 5, 3, 9, 9}} {
		a, b := openLaw(t, rightConfig()), openLaw(t, rightConfig())
		for _, l := range []*law{a, b} {
			l.send(ask(1, 1, 4))
			l.send(ask(2, 2, 3))
			l.send(ask(3, 3, 2))
		}
		a.tick(most)
		for _, n := range cut {
			b.tick(n)
		}
		a.same(b, "P22")
		if a.s.Clock() != most {
			t.Errorf("Clock() = %d", a.s.Clock())
		}
	}
}
