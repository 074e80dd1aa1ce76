package tree

// node: an entry, those before it to its left, those behind it to its right.
// The heights of both sides differ by 1 at most, so that no way down is long.
// Nothing writes into a node that was made: a change makes the nodes on its
// way anew.
type node struct {
	left, right *node
	entry       Entry
	height      int
}

func heightOf(n *node) int {
	if n == nil {
		return 0
	}
	return n.height
}

// firstOf tells the first entry below a node that is there.
func firstOf(n *node) Entry {
	for n.left != nil {
		n = n.left
	}
	return n.entry
}

// with is the same entries and this one, in place of one of the same key.
func with(n *node, entry Entry) *node {
	if n == nil {
		return join(nil, entry, nil)
	}
	if before(entry.Key, n.entry.Key) {
		left := with(n.left, entry)
		return balance(left, n.entry, n.right)
	}
	if before(n.entry.Key, entry.Key) {
		right := with(n.right, entry)
		return balance(n.left, n.entry, right)
	}
	return join(n.left, entry, n.right)
}

// without is the same entries but the one of this key.
func without(n *node, key Key) *node {
	if n == nil {
		return nil
	}
	if before(key, n.entry.Key) {
		left := without(n.left, key)
		return balance(left, n.entry, n.right)
	}
	if before(n.entry.Key, key) {
		right := without(n.right, key)
		return balance(n.left, n.entry, right)
	}
	return merge(n.left, n.right)
}

// merge puts together what stood to both sides of an entry that is gone.
func merge(left *node, right *node) *node {
	if right == nil {
		return left
	}
	middle := firstOf(right)
	rest := without(right, middle.Key)
	return balance(left, middle, rest)
}

// join makes a node of sides whose heights differ by 1 at most.
func join(left *node, entry Entry, right *node) *node {
	height := heightOf(left)
	if heightOf(right) > height {
		height = heightOf(right)
	}
	return &node{left: left, right: right, entry: entry, height: height + 1}
}

// balance makes a node of sides whose heights differ by 2 at most, which is
// as far as one entry more or less can bring them.
func balance(left *node, entry Entry, right *node) *node {
	difference := heightOf(left) - heightOf(right)
	if left != nil && difference > 1 {
		return leanRight(left, entry, right)
	}
	if right != nil && difference < -1 {
		return leanLeft(left, entry, right)
	}
	return join(left, entry, right)
}

// leanRight is balance where the left side is too high: an entry of that side
// comes to the top.
func leanRight(left *node, entry Entry, right *node) *node {
	top := left.right
	if top == nil || heightOf(left.left) >= top.height {
		below := join(left.right, entry, right)
		return join(left.left, left.entry, below)
	}
	first := join(left.left, left.entry, top.left)
	second := join(top.right, entry, right)
	return join(first, top.entry, second)
}

// leanLeft is balance where the right side is too high.
func leanLeft(left *node, entry Entry, right *node) *node {
	top := right.left
	if top == nil || heightOf(right.right) >= top.height {
		below := join(left, entry, right.left)
		return join(below, right.entry, right.right)
	}
	first := join(left, entry, top.left)
	second := join(top.right, right.entry, right.right)
	return join(first, top.entry, second)
}
