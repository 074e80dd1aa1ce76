package sale

import "sale/tree"

// queue: the numbers of the orders that are Waiting. Each stands in both: the
// first has to be found, and the one of the most units.
type queue struct {
	turns tree.Tree
	sizes tree.Tree
}

func (q *queue) size() int { return q.turns.Size() }

func (q *queue) add(o order) {
	q.turns.Put(turnKey(o), 0)
	q.sizes.Put(sizeKey(o), 0)
}

func (q *queue) remove(o order) {
	q.turns.Remove(turnKey(o))
	q.sizes.Remove(sizeKey(o))
}

// first tells the order that came first; false, if nobody waits.
func (q *queue) first() (int, bool) {
	entry, some := q.turns.First()
	return entry.Key.Major, some
}

// greatest tells an order of the most units; false, if nobody waits.
func (q *queue) greatest() (int, bool) {
	entry, some := q.sizes.First()
	return entry.Key.Minor, some
}

func turnKey(o order) tree.Key { return tree.Key{Major: o.number} }

// sizeKey stands first where the units are most.
func sizeKey(o order) tree.Key { return tree.Key{Major: -o.units, Minor: o.number} }
