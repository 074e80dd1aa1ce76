// Package tree: numbers by key, in the order of the keys.
//
// It stands in for a map, which the language of the program does not have. To
// put, get and remove takes some steps more when there are twice as many
// entries, whatever the keys are and in whichever order they come.
package tree

// Key: a key comes before another if its Major is less, of one Major if its
// Minor is.
type Key struct {
	Major, Minor int
}

// Entry: a key and what stands under it.
type Entry struct {
	Key   Key
	Value int
}

// Tree: entries, no two of one key. Its zero value has none.
type Tree struct {
	root *node
	size int
}

// Size tells how many entries there are.
func (t *Tree) Size() int { return t.size }

// Get tells what stands under a key; 0 and false, if nothing does.
func (t *Tree) Get(key Key) (int, bool) {
	n := t.root
	for n != nil {
		switch {
		case before(key, n.entry.Key):
			n = n.left
		case before(n.entry.Key, key):
			n = n.right
		default:
			return n.entry.Value, true
		}
	}
	return 0, false
}

// First tells the entry whose key comes before all others; zeros and false,
// if there is none.
func (t *Tree) First() (Entry, bool) {
	if t.root == nil {
		return Entry{}, false
	}
	return firstOf(t.root), true
}

// Put lays a value under a key, in place of what stood there.
func (t *Tree) Put(key Key, value int) {
	_, known := t.Get(key)
	if !known {
		t.size = t.size + 1
	}
	t.root = with(t.root, Entry{Key: key, Value: value})
}

// Remove takes away what stands under a key, if something does.
func (t *Tree) Remove(key Key) {
	_, known := t.Get(key)
	if !known {
		return
	}
	t.size = t.size - 1
	t.root = without(t.root, key)
}

func before(a Key, b Key) bool {
	if a.Major != b.Major {
		return a.Major < b.Major
	}
	return a.Minor < b.Minor
}
