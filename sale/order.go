package sale

import "sale/tree"

type order struct {
	number, customer, units int
	state                   int // the kind of the reply that tells it, such as Held
	cents                   int // of a unit, once it was Held
	until                   int
}

// orders: orders by number.
type orders struct {
	places tree.Tree // where in the list an order of a number stands
	list   []order
}

func (l *orders) get(number int) (order, bool) {
	place, known := l.places.Get(tree.Key{Major: number})
	if !known || place < 0 || place >= len(l.list) {
		return order{}, false
	}
	return l.list[place], true
}

// put lays an order down, in place of the one of its number.
func (l *orders) put(o order) {
	key := tree.Key{Major: o.number}
	place, known := l.places.Get(key)
	if known && place >= 0 && place < len(l.list) {
		l.list[place] = o
		return
	}
	l.places.Put(key, len(l.list))
	l.list = append(l.list, o)
}
