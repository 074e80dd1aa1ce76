package sale_test

import (
	"math"
	"math/rand"
	"slices"
	"testing"

	"sale/api"
	"sale/sale"
)

func TestP9OpenRefuses(t *testing.T) {
	refuse := func(c api.Config) {
		t.Helper()
		if s, e := sale.Open(c); s != nil || e != api.ErrConfig {
			t.Errorf("Open(%+v) = %v, %d", c, s, e)
		}
	}
	for _, field := range configNumbers {
		for _, n := range noNumbers {
			c := rightConfig()
			*field.of(&c) = n
			refuse(c)
		}
	}
	for _, pairs := range [][][2]int{nil, {{1, 1}}, {{0, 0}}, {{0, 1}, {0, 1}}, {{0, 1}, {1, 1}, {2, 1}, {3, 1}, {4, 1}}} {
		c := rightConfig()
		c.Prices = tiers(pairs)
		refuse(c)
	}
	refuse(api.Config{})
}

func TestP9OpenIsEmpty(t *testing.T) {
	for _, stock := range numbers {
		c := rightConfig()
		c.Stock = stock
		p := openPair(t, c) // looks at the books, at accounts and for orders
		p.books(stock, 0, 0, 0, 0)
		if n := p.s.Clock(); n != 0 {
			t.Errorf("Clock() = %d", n)
		}
		p.want(poll(1, 1), re(api.Unknown, 0, 0, 0))
		p.want(confirm(1, 1, 1), re(api.Gone, 0, 0, 0))
		p.want(ask(2, 1, 1), re(api.Granted, 1, 100, 10))
	}
}

func TestP10Bad(t *testing.T) {
	p := openPair(t, rightConfig())
	p.want(ask(1, 7, 3), re(api.Granted, 1, 100, 10))
	p.want(ask(2, 8, 3), re(api.Queued, 2, 0, 20))
	for _, b := range [][]byte{
		nil, {}, {0}, {1}, {1, 3, 9}, {1, 3, 9, 0}, {1, 3, 0, 1}, {1, 0, 9, 1}, {1, 3, 9, 1, 0}, {1, 3, 9, 129, 0},
		{1, 3, 9, 1, 1}, {2, 3, 7}, {2, 3, 7, 0}, {2, 3, 7, 1, 1}, {3, 3, 7}, {3, 3, 7, 129}, {3, 3, 7, 1, 0},
		{4, 7}, {4, 7, 0}, {4, 7, 1, 1}, {4, 7, 129, 0}, {0, 3, 9, 1}, {5, 3, 9, 1}, {255, 3, 9, 1}, {129, 3, 9, 1},
		{1, 129, 128, 128, 128, 16, 9, 1}, {1, 1, 7, 131, 0},
	} {
		if got := p.sendBytes(b); got != re(api.Bad, 0, 0, 0) {
			t.Errorf("Send(%v) = %+v", b, got)
		}
		p.look()
		p.books(2, 3, 0, 1, 2)
	}
	p.want(ask(3, 9, 1), re(api.Queued, 3, 0, 20)) // token and number are free as before
}

// All short lists, and those with one byte of a frame changed, come to an end.
func TestP1SendAllLists(t *testing.T) {
	p := openPair(t, wide(1000, 1000))
	edges := []byte{0, 1, 2, 3, 4, 5, 127, 128, 255}
	lists := [][]byte{{}}
	for range 5 {
		var longer [][]byte
		for _, b := range lists {
			p.sendBytes(b)
			for _, last := range edges {
				longer = append(longer, append(append([]byte{}, b...), last))
			}
		}
		lists = longer
	}
	p.look()
	for _, length := range []int{20, 1000, 1 << 20} {
		for _, first := range edges {
			b := make([]byte, length)
			b[0] = first
			if got := p.sendBytes(b); got != re(api.Bad, 0, 0, 0) {
				t.Errorf("Send of %d and %d zeros = %+v", first, length-1, got)
			}
		}
	}
	p.look()
}

func TestP1GreatNumbers(t *testing.T) {
	const most = api.MaxNumber
	c := api.Config{
		Stock: most, Cap: most, Queue: most, Lease: most, Wait: most, Keep: most, Tokens: most,
		Prices: tiers([][2]int{{0, api.MaxCents}, {1, 1}, {most - 1, 5}, {most, 6}}),
	}
	p := openPair(t, c)
	p.want(ask(most, most, most), re(api.Granted, 1, api.MaxCents, most))
	p.want(ask(1, most, 1), re(api.OverCap, 0, 0, 0))
	p.want(ask(2, most, most), re(api.OverCap, 0, 0, 0))
	p.want(ask(3, 1, most), re(api.Queued, 2, 0, most))
	p.want(ask(4, 2, most-1), re(api.Queued, 3, 0, most))
	p.account(1, 0, 0, most)
	p.want(confirm(5, most, 1), re(api.Confirmed, 1, 1<<62, 0))
	p.want(poll(most, 1), re(api.Sold, 1, 1<<62, 0))
	p.want(poll(1, 2), re(api.Drained, 2, 0, 0))
	p.want(poll(2, 3), re(api.Drained, 3, 0, 0))
	p.books(0, 0, most, 0, 6)
	p.account(most, 0, most, 0)
	p.want(ask(6, 1, 1), re(api.SoldOut, 0, 0, 0))
	p.want(ask(7, 1, most), re(api.SoldOut, 0, 0, 0))

	p = openPair(t, c)
	p.want(ask(1, 1, most-1), re(api.Granted, 1, api.MaxCents, most))
	p.want(ask(2, 2, 1), re(api.Granted, 2, api.MaxCents, most))
	p.want(ask(3, 3, 1), re(api.Queued, 3, 0, most))
	p.want(confirm(4, 1, 1), re(api.Confirmed, 1, (most-1)*api.MaxCents, 0))
	p.want(cancel(5, 2, 2), re(api.Cancelled, 2, 0, 0))
	p.want(poll(3, 3), re(api.Held, 3, 5, most))
	p.want(confirm(6, 3, 3), re(api.Confirmed, 3, 5, 0))
	p.books(0, 0, most, 0, 6)
}

// The least of everything.
func TestP1SmallNumbers(t *testing.T) {
	c := api.Config{
		Stock: 1, Cap: 1, Queue: 1, Lease: 1, Wait: 1, Keep: 1, Tokens: 5,
		Prices: tiers([][2]int{{0, 1}}),
	}
	p := openPair(t, c)
	p.want(ask(1, 1, 1), re(api.Granted, 1, 1, 1))
	p.want(ask(2, 2, 1), re(api.Queued, 2, 0, 1))
	p.want(ask(3, 3, 1), re(api.Busy, 0, 0, 0))
	p.want(confirm(4, 1, 1), re(api.Confirmed, 1, 1, 0))
	p.want(ask(5, 3, 1), re(api.SoldOut, 0, 0, 0))
	p.want(ask(6, 3, 1), re(api.Full, 0, 0, 0))
}

func TestP15AccountsAtTheEdges(t *testing.T) {
	p := openPair(t, wide(1000, 5))
	for i, customer := range numbers {
		p.want(ask(2*i+1, customer, 2), re(api.Granted, 2*i+1, 100, 10))
		p.want(ask(2*i+2, customer, 1), re(api.Granted, 2*i+2, 100, 10))
		p.want(confirm(100+i, customer, 2*i+1), re(api.Confirmed, 2*i+1, 200, 0))
		p.account(customer, 1, 2, 0)
	}
	for _, customer := range noNumbers {
		if a, e := p.s.Account(customer); a != (api.Account{}) || e != api.ErrArg {
			t.Errorf("Account(%d) = %+v, %d", customer, a, e)
		}
	}
	for _, customer := range numbers {
		p.account(customer, 1, 2, 0)
	}
	p.account(3, 0, 0, 0) // a customer who never came
}

// Several orders of one customer, in each state.
func TestP15AccountOfSeveralOrders(t *testing.T) {
	p := openPair(t, wide(10, 10))
	p.want(ask(1, 1, 1), re(api.Granted, 1, 100, 10))
	p.want(ask(2, 1, 2), re(api.Granted, 2, 100, 10))
	p.want(ask(3, 2, 6), re(api.Granted, 3, 100, 10))
	p.want(ask(4, 1, 3), re(api.Queued, 4, 0, 20))
	p.want(ask(5, 1, 4), re(api.Queued, 5, 0, 20))
	p.account(1, 3, 0, 7)
	p.want(confirm(6, 1, 1), re(api.Confirmed, 1, 100, 0))
	p.account(1, 2, 1, 7)
	p.want(confirm(7, 1, 2), re(api.Confirmed, 2, 200, 0))
	p.account(1, 0, 3, 7)
	p.want(cancel(8, 1, 4), re(api.Cancelled, 4, 0, 0))
	p.account(1, 0, 3, 4)
	p.want(cancel(9, 2, 3), re(api.Cancelled, 3, 0, 0))
	p.account(1, 4, 3, 0)
	p.want(cancel(10, 1, 5), re(api.Cancelled, 5, 0, 0))
	p.account(1, 0, 3, 0)
	p.books(7, 0, 3, 0, 10)
}

func TestP2PricesAreNotKept(t *testing.T) {
	for length := 1; length <= api.MaxTiers; length++ {
		room := tiers([][2]int{{0, 50}, {1, 60}, {2, 70}, {3, 80}, {4, 90}, {5, 99}})
		before := slices.Clone(room)
		c := wide(10, 10)
		c.Prices = room[:length]
		p := openPair(t, c)
		if !slices.Equal(room, before) {
			t.Errorf("Open with %d tiers wrote into the prices or their spare room: %v", length, room)
		}
		for i := range room {
			room[i] = api.Tier{From: 0, Cents: 7}
		}
		for i := range 5 {
			want := before[min(i, length-1)].Cents
			p.want(ask(2*i+1, 1, 1), re(api.Granted, i+1, want, 10))
			p.want(confirm(2*i+2, 1, i+1), re(api.Confirmed, i+1, want, 0))
		}
		for i := range room {
			if room[i] != (api.Tier{From: 0, Cents: 7}) {
				t.Errorf("a sale with %d tiers wrote into what was handed in: %v", length, room)
			}
		}
	}
}

// Two sales of one configuration share no list.
func TestP2SeveralSales(t *testing.T) {
	c := rightConfig()
	a, b := openPair(t, c), openPair(t, c)
	c.Stock, c.Lease = 9, 11
	d := openPair(t, c)
	a.want(ask(1, 7, 4), re(api.Granted, 1, 100, 10))
	b.want(ask(1, 8, 3), re(api.Granted, 1, 100, 10)) // token and number are free there
	d.want(ask(1, 7, 4), re(api.Granted, 1, 100, 11))
	a.want(ask(2, 8, 2), re(api.Queued, 2, 0, 20))
	b.want(ask(2, 9, 2), re(api.Granted, 2, 100, 10))
	d.want(confirm(2, 7, 1), re(api.Confirmed, 1, 400, 0))
	b.want(poll(7, 1), re(api.Unknown, 0, 0, 0))
	b.want(cancel(3, 8, 2), re(api.Gone, 0, 0, 0))
	a.want(cancel(3, 8, 2), re(api.Cancelled, 2, 0, 0))
	d.want(ask(3, 8, 1), re(api.Granted, 2, 150, 11)) // 4 are sold there alone
	a.want(ask(4, 9, 1), re(api.Granted, 3, 100, 10))
	e := openPair(t, rightConfig())
	e.books(5, 0, 0, 0, 0)
	a.look()
	b.look()
	d.look()
	a.books(0, 5, 0, 0, 4)
	b.books(0, 5, 0, 0, 3)
	d.books(4, 1, 4, 0, 3)
}

// drawConfig draws a small configuration, so that all its bounds are met.
func drawConfig(r *rand.Rand) api.Config {
	c := api.Config{
		Stock: 1 + r.Intn(12), Cap: 1 + r.Intn(8), Queue: 1 + r.Intn(6),
		Lease: 1 + r.Intn(9), Wait: 1 + r.Intn(9), Keep: 1 + r.Intn(9), Tokens: 1 + r.Intn(60),
	}
	from := 0
	for range 1 + r.Intn(api.MaxTiers) {
		c.Prices = append(c.Prices, api.Tier{From: from, Cents: 1 + r.Intn(99)})
		from += 1 + r.Intn(4)
	}
	return c
}

func drawRequest(r *rand.Rand, m *plain) api.Request {
	token, customer, number := 1+r.Intn(90), 1+r.Intn(5), 1+r.Intn(len(m.orders)+2)
	// Mostly the customer whose order it is, else little would be confirmed.
	if number <= len(m.orders) && r.Intn(8) > 0 {
		customer = m.orders[number-1].customer
	}
	switch r.Intn(8) {
	case 0:
		return confirm(token, customer, number)
	case 1, 2:
		return cancel(token, customer, number)
	case 3:
		return poll(customer, number)
	}
	return ask(token, 1+r.Intn(5), 1+r.Intn(1+r.Intn(7)))
}

// drawTick draws a time to go by, mostly a short one.
func drawTick(r *rand.Rand) int {
	if r.Intn(10) == 0 {
		return r.Intn(40)
	}
	return r.Intn(4)
}

func TestP10ToP16Drawn(t *testing.T) {
	r := rand.New(rand.NewSource(4))
	met := map[int]int{}
	for range 600 {
		p := openPair(t, drawConfig(r))
		quick := r.Intn(6) // how often time goes by
		for range 80 {
			if r.Intn(6) < quick {
				n := drawTick(r)
				p.tick(n, p.m.clock+n)
			}
			q := drawRequest(r, p.m)
			met[p.send(q).Kind]++
			if r.Intn(20) == 0 {
				b := make([]byte, r.Intn(8))
				for i := range b {
					b[i] = byte(r.Intn(256) >> r.Intn(8))
				}
				p.sendBytes(b)
				p.look()
			}
		}
		if books := p.s.Books(); books.Free < 0 || books.Free+books.Held+books.Sold != p.m.c.Stock {
			t.Fatalf("Books() = %+v of stock %d", books, p.m.c.Stock)
		}
	}
	for kind := api.Granted; kind <= api.Unknown; kind++ {
		if met[kind] == 0 {
			t.Errorf("no reply of kind %d was met: the draw is too narrow", kind)
		}
	}
}

// Many orders wait; one call moves them all. What took a step for each order
// at each step would not come to an end here.
func TestP12Many(t *testing.T) {
	const n = 50000
	open := func() *sale.Sale {
		c := wide(n, n)
		c.Queue, c.Tokens = n, 3*n
		s, _ := sale.Open(c)
		if got := send(s, ask(1, 1, n-1)); got.Kind != api.Granted {
			t.Fatalf("the first Ask is answered %+v", got)
		}
		if got := send(s, ask(2, 1, 1)); got.Kind != api.Granted {
			t.Fatalf("the second Ask is answered %+v", got)
		}
		return s
	}

	s := open()
	for i := range n - 1 {
		if got := send(s, ask(3+i, 2+i*7919%n, 1)); got != re(api.Queued, 3+i, 0, 20) {
			t.Fatalf("Ask %d is answered %+v", i, got)
		}
	}
	if got := send(s, cancel(n+5, 1, 1)); got.Kind != api.Cancelled {
		t.Fatalf("Cancel is answered %+v", got)
	}
	if b := s.Books(); b != (api.Books{Held: n, Answers: n + 2}) {
		t.Errorf("behind the promotion Books() = %+v", b)
	}

	s = open()
	for i := range n - 2 {
		if got := send(s, ask(3+i, 2+i, n-i%(n/2))); got != re(api.Queued, 3+i, 0, 20) {
			t.Fatalf("Ask %d is answered %+v", i, got)
		}
	}
	if got := send(s, confirm(n+5, 1, 1)); got.Kind != api.Confirmed {
		t.Fatalf("Confirm is answered %+v", got)
	}
	if b := s.Books(); b != (api.Books{Held: 1, Sold: n - 1, Answers: n + 1}) {
		t.Errorf("behind the draining Books() = %+v", b)
	}
}

func send(s *sale.Sale, r api.Request) api.Reply {
	b, _ := sale.Pack(r)
	return s.Send(b)
}

func TestP1AccountEndsAtAllNumbers(t *testing.T) {
	s, _ := sale.Open(rightConfig())
	for shift := range 64 {
		for _, n := range []int{1<<shift - 1, 1 << shift, 1<<shift + 1, -1 << shift, math.MaxInt >> shift} {
			a, e := s.Account(n)
			right := n >= 1 && n <= 1<<32
			if a != (api.Account{}) || (e == api.OK) != right || !right && e != api.ErrArg {
				t.Errorf("Account(%d) = %+v, %d", n, a, e)
			}
		}
	}
}
