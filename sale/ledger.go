package sale

import (
	"sale/api"
	"sale/tree"
)

// ledger: the units of all orders that are Held, Sold and Waiting.
type ledger struct {
	held, sold int       // of all customers
	units      tree.Tree // of a customer, by state; what is 0 does not stand there
}

// add counts units of a customer's order that comes into a state, or takes
// them off, if they are below 0.
func (l *ledger) add(customer int, state int, units int) {
	switch state {
	case api.Held:
		l.held = l.held + units
	case api.Sold:
		l.sold = l.sold + units
	case api.Waiting:
	default:
		return // the units of such an order are nobody's
	}
	key := tree.Key{Major: customer, Minor: state}
	old, _ := l.units.Get(key)
	if old+units == 0 {
		l.units.Remove(key)
		return
	}
	l.units.Put(key, old+units)
}

func (l *ledger) account(customer int) api.Account {
	held, _ := l.units.Get(tree.Key{Major: customer, Minor: api.Held})
	sold, _ := l.units.Get(tree.Key{Major: customer, Minor: api.Sold})
	waiting, _ := l.units.Get(tree.Key{Major: customer, Minor: api.Waiting})
	return api.Account{Held: held, Sold: sold, Waiting: waiting}
}
