package sale

import (
	"sale/api"
	"sale/tree"
)

// answer: a reply that is remembered, with its request. The request stands for
// its frame: no two frames are of one request (P5).
type answer struct {
	request api.Request
	reply   api.Reply
}

// answers: answers by the token of their request.
type answers struct {
	places tree.Tree // where in the list the answer to a token stands
	list   []answer
}

func (l *answers) size() int { return l.places.Size() }

func (l *answers) get(token int) (answer, bool) {
	place, known := l.places.Get(tree.Key{Major: token})
	if !known || place < 0 || place >= len(l.list) {
		return answer{}, false
	}
	return l.list[place], true
}

// add lays down the answer to a token that has none.
func (l *answers) add(a answer) {
	l.places.Put(tree.Key{Major: a.request.Token}, len(l.list))
	l.list = append(l.list, a)
}
