package sale

import (
	"sale/api"
	"sale/tree"
	"sale/wheel"
)

// answer: a reply that is remembered, with its request. The request stands for
// its frame: no two frames are of one request (P5).
type answer struct {
	request api.Request
	reply   api.Reply
}

// answers: answers by the token of their request.
type answers struct {
	timers *wheel.Wheel // by token: when its answer is forgotten
	places tree.Tree    // where in the list the answer to a token stands
	list   []answer
	room   int // the most that stood in the list since it was laid anew
}

func newAnswers() answers { return answers{timers: wheel.New(0)} }

func (l *answers) size() int { return l.places.Size() }

func (l *answers) get(token int) (answer, bool) {
	place, known := l.places.Get(tree.Key{Major: token})
	if !known || place < 0 || place >= len(l.list) {
		return answer{}, false
	}
	return l.list[place], true
}

// add lays down the answer to a token that has none, until a time to come.
func (l *answers) add(a answer, until int) {
	l.timers.Set(a.request.Token, until)
	l.places.Put(tree.Key{Major: a.request.Token}, len(l.list))
	l.list = append(l.list, a)
	if l.room < len(l.list) {
		l.room = len(l.list)
	}
}

// forget takes away the answers whose time is over.
func (l *answers) forget(now int) {
	dues, _ := l.timers.Advance(now)
	for i := 0; i < len(dues); i++ {
		l.remove(dues[i].ID)
	}
}

// remove takes away the answer to a token. The last of the list comes into its
// place, so that the list has no gaps.
func (l *answers) remove(token int) {
	key := tree.Key{Major: token}
	place, known := l.places.Get(key)
	end := len(l.list) - 1
	if !known || place < 0 || place > end {
		return
	}
	last := l.list[end]
	l.list[place] = last
	l.places.Put(tree.Key{Major: last.request.Token}, place)
	l.places.Remove(key)
	l.list = l.list[:end]
	l.shrink()
}

// shrink gives back the room of a list that has become much shorter.
func (l *answers) shrink() {
	if len(l.list) > l.room/2 {
		return
	}
	l.list = append([]answer{}, l.list...)
	l.room = len(l.list)
}
