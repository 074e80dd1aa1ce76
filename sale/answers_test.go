package sale_test

import (
	"testing"

	"sale/api"
	"sale/sale"
)

// Each kind of answer, given once more when the request would now be answered
// otherwise.
func TestP14EachAnswerOnceMore(t *testing.T) {
	c := wide(6, 5)
	c.Queue = 1
	p := openPair(t, c)
	told := []struct {
		r     api.Request
		reply api.Reply
	}{
		{confirm(1, 1, 1), re(api.Gone, 0, 0, 0)},
		{cancel(2, 1, 1), re(api.Gone, 0, 0, 0)},
		{ask(3, 1, 6), re(api.OverCap, 0, 0, 0)},
		{ask(4, 1, 4), re(api.Granted, 1, 100, 10)},
		{ask(5, 2, 3), re(api.Queued, 2, 0, 20)},
		{ask(6, 3, 2), re(api.Busy, 0, 0, 0)},
		{cancel(7, 2, 2), re(api.Cancelled, 2, 0, 0)},
		{confirm(8, 1, 1), re(api.Confirmed, 1, 400, 0)},
		{ask(9, 2, 3), re(api.SoldOut, 0, 0, 0)},
		{confirm(10, 1, 1), re(api.Gone, 0, 0, 0)},
		{ask(11, 2, 1), re(api.Granted, 3, 100, 10)},
		{cancel(12, 2, 3), re(api.Cancelled, 3, 0, 0)},
	}
	for i, k := range told {
		p.want(k.r, k.reply)
		p.want(k.r, k.reply)
		for _, earlier := range told[:i+1] {
			p.want(earlier.r, earlier.reply)
		}
		if n := p.s.Books().Answers; n != i+1 {
			t.Errorf("behind %+v %d answers are remembered", k.r, n)
		}
	}
	p.books(2, 0, 4, 0, 12)
}

func TestP14Conflict(t *testing.T) {
	p := openPair(t, wide(10, 10))
	p.want(ask(1, 7, 3), re(api.Granted, 1, 100, 10))
	p.want(ask(128, 7, 2), re(api.Granted, 2, 100, 10))
	others := []api.Request{
		ask(1, 7, 2), ask(1, 7, 4), ask(1, 8, 3), ask(1, 7, 128), ask(1, 300, 3), ask(1, 3, 7),
		confirm(1, 7, 1), confirm(1, 7, 3), cancel(1, 7, 1), cancel(1, 7, 3), confirm(1, 9, 9),
		ask(128, 7, 3), ask(128, 7, 1), confirm(128, 7, 2), cancel(128, 7, 2),
		ask(1, 7, 100), // would be OverCap
		ask(1, 8, 10),  // would be Queued
	}
	for _, r := range others {
		p.want(r, re(api.Conflict, 0, 0, 0))
		p.books(5, 5, 0, 0, 2)
	}
	// A Conflict takes nobody's place: the first frame still has its answer.
	p.want(ask(1, 7, 3), re(api.Granted, 1, 100, 10))
	p.want(confirm(2, 7, 1), re(api.Confirmed, 1, 300, 0))
	p.want(cancel(2, 7, 1), re(api.Conflict, 0, 0, 0))
	p.want(confirm(2, 7, 2), re(api.Conflict, 0, 0, 0))
	p.want(confirm(2, 7, 1), re(api.Confirmed, 1, 300, 0))
	p.books(5, 2, 3, 0, 3)
}

// A token is the sale's, not a customer's: it was used, whatever was answered.
func TestP14ConflictBehindARefusal(t *testing.T) {
	p := openPair(t, wide(5, 4))
	p.want(ask(1, 7, 5), re(api.OverCap, 0, 0, 0))
	p.want(ask(1, 7, 1), re(api.Conflict, 0, 0, 0))
	p.want(ask(1, 8, 1), re(api.Conflict, 0, 0, 0))
	p.want(confirm(2, 7, 1), re(api.Gone, 0, 0, 0))
	p.want(cancel(2, 7, 1), re(api.Conflict, 0, 0, 0))
	p.books(5, 0, 0, 0, 2)
}

func TestP14Full(t *testing.T) {
	for tokens := 1; tokens <= 5; tokens++ {
		c := wide(10, 10)
		c.Tokens = tokens
		p := openPair(t, c)
		for i := 1; i <= tokens; i++ {
			p.want(ask(i, i, 1), re(api.Granted, i, 100, 10))
		}
		full := []api.Request{
			ask(tokens+1, 1, 1), ask(api.MaxNumber, 1, 1), confirm(tokens+1, 1, 1), cancel(tokens+1, 1, 1),
			ask(tokens+1, 1, 100), confirm(tokens+1, 9, 9),
		}
		for _, r := range full {
			p.want(r, re(api.Full, 0, 0, 0))
			p.want(r, re(api.Full, 0, 0, 0))
		}
		for i := 1; i <= tokens; i++ { // the others come ahead of Full
			p.want(ask(i, i, 1), re(api.Granted, i, 100, 10))
			p.want(confirm(i, i, i), re(api.Conflict, 0, 0, 0))
		}
		p.want(poll(1, 1), re(api.Held, 1, 100, 10)) // a Poll needs no room
		p.books(10-tokens, tokens, 0, 0, tokens)
	}
}

// Bad, Polls, Conflict and Full take no room.
func TestP14WhatIsNotRemembered(t *testing.T) {
	c := wide(10, 10)
	c.Tokens = 2
	p := openPair(t, c)
	p.want(ask(1, 1, 1), re(api.Granted, 1, 100, 10))
	for range 5 {
		p.sendBytes([]byte{1, 1, 7, 0})
		p.want(poll(1, 1), re(api.Held, 1, 100, 10))
		p.want(poll(2, 2), re(api.Unknown, 0, 0, 0))
		p.want(ask(1, 1, 2), re(api.Conflict, 0, 0, 0))
		p.want(ask(1, 1, 1), re(api.Granted, 1, 100, 10))
		p.books(9, 1, 0, 0, 1)
	}
	p.want(confirm(2, 1, 1), re(api.Confirmed, 1, 100, 0))
	p.want(ask(3, 1, 1), re(api.Full, 0, 0, 0))
	p.books(9, 0, 1, 0, 2)
}

// Tokens at the edges, which differ in one group of their frames.
func TestP14TokensAtTheEdges(t *testing.T) {
	p := openPair(t, wide(100, 1))
	for i, token := range numbers {
		p.want(ask(token, i+1, 1), re(api.Granted, i+1, 100, 10))
	}
	for i, token := range numbers {
		p.want(ask(token, i+1, 1), re(api.Granted, i+1, 100, 10))
		p.want(ask(token, i+2, 1), re(api.Conflict, 0, 0, 0))
	}
}

// A frame that comes twice counts once, wherever the second comes.
func TestP14TwiceCountsOnce(t *testing.T) {
	c := wide(6, 4)
	c.Queue = 2
	c.Prices = tiers([][2]int{{0, 10}, {1, 20}, {4, 30}})
	steps := []api.Request{
		ask(1, 1, 2), ask(2, 2, 3), ask(3, 3, 4), ask(4, 4, 1), ask(5, 5, 1), confirm(6, 1, 1),
		cancel(7, 2, 2), confirm(8, 3, 3), ask(9, 1, 3), cancel(10, 4, 4), ask(11, 6, 4),
	}
	once := openPair(t, c)
	for _, r := range steps {
		once.send(r)
	}
	for first := range steps {
		for second := first; second < len(steps); second++ {
			p := openPair(t, c)
			var reply api.Reply
			for i, r := range steps {
				if got := p.send(r); i == first {
					reply = got
				}
				if i == second {
					p.want(steps[first], reply)
				}
			}
			if b := p.s.Books(); b != once.s.Books() {
				t.Errorf("%+v, sent again behind step %d: books %+v, want %+v", steps[first], second, b, once.s.Books())
			}
		}
	}
}

// What is remembered is the frame as it was when it came.
func TestP2FramesWrittenInto(t *testing.T) {
	p := openPair(t, wide(10, 10))
	b, _ := sale.Pack(ask(1, 7, 3))
	if got := p.s.Send(b); got != p.m.send(b) {
		t.Fatalf("Send(%v) = %+v", b, got)
	}
	b[3] = 2 // now another frame of this token
	if got := p.s.Send(b); got != re(api.Conflict, 0, 0, 0) {
		t.Errorf("Send of the other frame = %+v", got)
	}
	b[1] = 2 // now a frame of another token
	if got := p.s.Send(b); got != re(api.Granted, 2, 100, 10) || got != p.m.send(b) {
		t.Errorf("Send of the frame of another token = %+v", got)
	}
	for i := range b {
		b[i] = 0
	}
	if got := p.s.Send(b); got != re(api.Bad, 0, 0, 0) {
		t.Errorf("Send of zeros = %+v", got)
	}
	p.want(ask(1, 7, 3), re(api.Granted, 1, 100, 10))
	p.want(ask(2, 7, 2), re(api.Granted, 2, 100, 10))
	p.want(ask(2, 7, 3), re(api.Conflict, 0, 0, 0))
}
