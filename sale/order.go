package sale

import (
	"sale/api"
	"sale/tree"
)

type order struct {
	number, customer, units int
	state                   int // the kind of the reply that tells it, such as Held
	cents                   int // of a unit, once it was Held
	until                   int // when its time in this state is over; once it has ended, when it is forgotten
}

func (o order) hasEnded() bool { return o.state != api.Held && o.state != api.Waiting }

// orders: orders by number.
type orders struct {
	places tree.Tree // where in the list an order of a number stands
	list   []order
	room   int // the most that stood in the list since it was laid anew
}

func (l *orders) get(number int) (order, bool) {
	place, known := l.places.Get(tree.Key{Major: number})
	if !known || place < 0 || place >= len(l.list) {
		return order{}, false
	}
	return l.list[place], true
}

// put lays an order down, in place of the one of its number.
func (l *orders) put(o order) {
	key := tree.Key{Major: o.number}
	place, known := l.places.Get(key)
	if known && place >= 0 && place < len(l.list) {
		l.list[place] = o
		return
	}
	l.places.Put(key, len(l.list))
	l.list = append(l.list, o)
	if l.room < len(l.list) {
		l.room = len(l.list)
	}
}

// remove takes away the order of a number. The last of the list comes into its
// place, so that the list has no gaps.
func (l *orders) remove(number int) {
	key := tree.Key{Major: number}
	place, known := l.places.Get(key)
	end := len(l.list) - 1
	if !known || place < 0 || place > end {
		return
	}
	last := l.list[end]
	l.list[place] = last
	l.places.Put(tree.Key{Major: last.number}, place)
	l.places.Remove(key)
	l.list = l.list[:end]
	l.shrink()
}

// shrink gives back the room of a list that has become much shorter.
func (l *orders) shrink() {
	if len(l.list) > l.room/2 {
		return
	}
	l.list = append([]order{}, l.list...)
	l.room = len(l.list)
}
