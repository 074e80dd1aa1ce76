package tree

import (
	"math"
	"math/rand"
	"testing"
)

// look tells the entries of a tree in order, and fails if a node stands in a
// wrong place, bears a wrong height or has sides that differ by more than 1.
func look(t *testing.T, n *node) []Entry {
	t.Helper()
	if n == nil {
		return nil
	}
	l, r := heightOf(n.left), heightOf(n.right)
	if l-r > 1 || r-l > 1 || n.height != 1+max(l, r) {
		t.Fatalf("%v: heights %d and %d below %d", n.entry, l, r, n.height)
	}
	list := append(look(t, n.left), n.entry)
	list = append(list, look(t, n.right)...)
	for i := 1; i < len(list); i++ {
		if !before(list[i-1].Key, list[i].Key) {
			t.Fatalf("%v stands before %v", list[i-1], list[i])
		}
	}
	return list
}

// compare fails unless the tree has just these entries.
func compare(t *testing.T, tr *Tree, want map[Key]int) {
	t.Helper()
	list := look(t, tr.root)
	if len(list) != len(want) || tr.Size() != len(want) {
		t.Fatalf("%d entries, Size() = %d, want %d", len(list), tr.Size(), len(want))
	}
	for _, e := range list {
		if v, ok := want[e.Key]; !ok || v != e.Value {
			t.Fatalf("%v stands there, want %d, %v", e, v, ok)
		}
		if v, ok := tr.Get(e.Key); !ok || v != e.Value {
			t.Fatalf("Get(%v) = %d, %v, want %d", e.Key, v, ok, e.Value)
		}
	}
	first, ok := tr.First()
	if ok != (len(list) > 0) || !ok && first != (Entry{}) || ok && first != list[0] {
		t.Fatalf("First() = %v, %v of %v", first, ok, list)
	}
}

func TestEmpty(t *testing.T) {
	var tr Tree
	compare(t, &tr, nil)
	tr.Remove(Key{})
	compare(t, &tr, nil)
	if v, ok := tr.Get(Key{}); v != 0 || ok {
		t.Errorf("Get of nothing = %d, %v", v, ok)
	}
}

func TestOrderOfKeys(t *testing.T) {
	numbers := []int{math.MinInt, math.MinInt + 1, -1, 0, 1, math.MaxInt - 1, math.MaxInt}
	var tr Tree
	var want []Key
	for i := range numbers {
		for j := range numbers {
			want = append(want, Key{Major: numbers[i], Minor: numbers[j]})
			tr.Put(Key{Major: numbers[len(numbers)-1-j], Minor: numbers[i]}, 0)
		}
	}
	for i, e := range look(t, tr.root) {
		if e.Key != want[i] {
			t.Errorf("key %d is %v, want %v", i, e.Key, want[i])
		}
	}
}

func TestPutTwice(t *testing.T) {
	var tr Tree
	for _, v := range []int{5, 6, 6, 0, -1} {
		tr.Put(Key{Major: 1, Minor: 2}, v)
		compare(t, &tr, map[Key]int{{Major: 1, Minor: 2}: v})
	}
}

// A tree that was copied does not change with the other.
func TestCopy(t *testing.T) {
	var a Tree
	for i := range 20 {
		a.Put(Key{Major: i}, i)
	}
	b := a
	for i := range 20 {
		a.Remove(Key{Major: i})
		a.Put(Key{Major: -1 - i}, i)
	}
	want := map[Key]int{}
	for i := range 20 {
		want[Key{Major: i}] = i
	}
	compare(t, &b, want)
}

// All orders in which six come, each followed by all places from which one
// after the other goes.
func TestAllOrders(t *testing.T) {
	const n = 6
	order := make([]int, 0, n)
	var extend func()
	extend = func() {
		if len(order) == n {
			for from := range n {
				for step := 1; step < n; step += 4 { // 1 and 5: up and down, round
					comeAndGo(t, order, from, step)
				}
			}
			return
		}
	next:
		for k := range n {
			for _, o := range order {
				if o == k {
					continue next
				}
			}
			order = append(order, k)
			extend()
			order = order[:len(order)-1]
		}
	}
	extend()
}

func comeAndGo(t *testing.T, order []int, from int, step int) {
	t.Helper()
	var tr Tree
	want := map[Key]int{}
	for _, k := range order {
		tr.Put(Key{Minor: k}, k+100)
		want[Key{Minor: k}] = k + 100
		compare(t, &tr, want)
	}
	for i := range order {
		key := Key{Minor: (from + i*step) % len(order)}
		tr.Remove(key)
		delete(want, key)
		compare(t, &tr, want)
	}
}

func TestDrawn(t *testing.T) {
	r := rand.New(rand.NewSource(2))
	for _, wide := range []int{2, 6, 20} {
		var tr Tree
		want := map[Key]int{}
		for i := range 3000 {
			key := Key{Major: r.Intn(wide) - wide/2, Minor: r.Intn(wide) - wide/2}
			// More come than go, then more go than come.
			if r.Intn(3) < 1+i/1500 {
				tr.Remove(key)
				delete(want, key)
			} else {
				tr.Put(key, i)
				want[key] = i
			}
			compare(t, &tr, want)
		}
	}
}

// Entries that come in order are the worst for a tree that keeps no balance.
func TestManyInOrder(t *testing.T) {
	const n = 100000
	var up, down Tree
	for i := range n {
		up.Put(Key{Major: i}, i)
		down.Put(Key{Major: -i}, i)
	}
	for i, tr := range []*Tree{&up, &down} {
		if list := look(t, tr.root); len(list) != n || tr.root.height > 24 {
			t.Errorf("tree %d: %d entries, height %d", i, len(list), tr.root.height)
		}
	}
	for i := range n {
		if e, ok := up.First(); !ok || e.Key.Major != i {
			t.Fatalf("First() = %v, %v, want %d", e, ok, i)
		}
		up.Remove(Key{Major: i})
	}
	compare(t, &up, nil)
}
