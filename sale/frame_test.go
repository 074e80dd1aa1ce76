package sale_test

import (
	"bytes"
	"encoding/binary"
	"math"
	"testing"

	"sale/api"
	"sale/sale"
)

// wantFrame is P4 said in another way: the frame of a request, nil if it is none.
func wantFrame(r api.Request) []byte {
	var has, hasNot []int
	switch r.Kind {
	case 1:
		has, hasNot = []int{r.Token, r.Customer, r.Units}, []int{r.Order}
	case 2, 3:
		has, hasNot = []int{r.Token, r.Customer, r.Order}, []int{r.Units}
	case 4:
		has, hasNot = []int{r.Customer, r.Order}, []int{r.Token, r.Units}
	default:
		return nil
	}
	frame := []byte{byte(r.Kind)}
	for _, n := range has {
		if n < 1 || n > 1<<32 {
			return nil
		}
		frame = binary.AppendUvarint(frame, uint64(n))
	}
	for _, n := range hasNot {
		if n != 0 {
			return nil
		}
	}
	return frame
}

// wantRequest is P5 said in another way: the request whose frame this is, and
// whether there is one.
func wantRequest(b []byte) (api.Request, bool) {
	if len(b) == 0 {
		return api.Request{}, false
	}
	r := api.Request{Kind: int(b[0])}
	var into []*int
	switch r.Kind {
	case 1:
		into = []*int{&r.Token, &r.Customer, &r.Units}
	case 2, 3:
		into = []*int{&r.Token, &r.Customer, &r.Order}
	case 4:
		into = []*int{&r.Customer, &r.Order}
	}
	rest := b[1:]
	for _, p := range into {
		n, length := binary.Uvarint(rest)
		if length <= 0 || n > 1<<32 {
			return api.Request{}, false
		}
		*p = int(n)
		rest = rest[length:]
	}
	frame := wantFrame(r)
	if frame == nil || !bytes.Equal(frame, b) {
		return api.Request{}, false
	}
	return r, true
}

func checkPack(t *testing.T, r api.Request) {
	t.Helper()
	b, e := sale.Pack(r)
	want := wantFrame(r)
	if want == nil && (b != nil || e != api.ErrFrame) {
		t.Fatalf("Pack(%+v) = %v, %d, want nil, %d", r, b, e, api.ErrFrame)
	}
	if want != nil && (!bytes.Equal(b, want) || e != api.OK) {
		t.Fatalf("Pack(%+v) = %v, %d, want %v, 0", r, b, e, want)
	}
}

func checkUnpack(t *testing.T, b []byte) {
	t.Helper()
	r, e := sale.Unpack(b)
	want, ok := wantRequest(b)
	if r != want || ok != (e == api.OK) || !ok && e != api.ErrFrame {
		t.Fatalf("Unpack(%v) = %+v, %d, want %+v, %v", b, r, e, want, ok)
	}
}

var frames = []struct {
	r api.Request
	b []byte
}{
	{api.Request{Kind: api.Ask, Token: 1, Customer: 7, Units: 3}, []byte{1, 1, 7, 3}},
	{api.Request{Kind: api.Poll, Customer: 300, Order: 1}, []byte{4, 172, 2, 1}},
	{api.Request{Kind: api.Confirm, Token: 6, Customer: 7, Order: 1}, []byte{2, 6, 7, 1}},
	{api.Request{Kind: api.Cancel, Token: 8, Customer: 9, Order: 3}, []byte{3, 8, 9, 3}},
	{api.Request{Kind: api.Ask, Token: 127, Customer: 128, Units: 129}, []byte{1, 127, 128, 1, 129, 1}},
	{api.Request{Kind: api.Confirm, Token: 1<<14 - 1, Customer: 1 << 14, Order: 1<<14 + 1}, []byte{2, 255, 127, 128, 128, 1, 129, 128, 1}},
	{api.Request{Kind: api.Cancel, Token: 1<<21 - 1, Customer: 1 << 21, Order: 1<<28 - 1}, []byte{3, 255, 255, 127, 128, 128, 128, 1, 255, 255, 255, 127}},
	{api.Request{Kind: api.Poll, Customer: 1 << 28, Order: 1<<32 - 1}, []byte{4, 128, 128, 128, 128, 1, 255, 255, 255, 255, 15}},
	{api.Request{Kind: api.Ask, Token: 1 << 32, Customer: 1 << 32, Units: 1 << 32}, []byte{1, 128, 128, 128, 128, 16, 128, 128, 128, 128, 16, 128, 128, 128, 128, 16}},
	{api.Request{Kind: api.Poll, Customer: 1 << 32, Order: 1}, []byte{4, 128, 128, 128, 128, 16, 1}},
}

func TestP4Frames(t *testing.T) {
	for _, k := range frames {
		b, e := sale.Pack(k.r)
		if e != api.OK || !bytes.Equal(b, k.b) {
			t.Errorf("Pack(%+v) = %v, %d, want %v, 0", k.r, b, e, k.b)
		}
	}
}

// Every kind with all numbers at the edges, right and wrong, in all places.
// This is P1 of Pack too: no panic, and nil with an error.
func TestP4Edges(t *testing.T) {
	kinds := []int{math.MinInt, -252, -4, -1, 0, 1, 2, 3, 4, 5, 128, 129, 256, 257, 260, 1 << 32, 1<<32 + 1, math.MaxInt}
	edges := append(append([]int{}, numbers...), noNumbers...)
	few := []int{math.MinInt, -1, 0, 1, 128, 1 << 32, 1<<32 + 1, math.MaxInt}
	for _, kind := range kinds {
		for _, token := range few {
			for _, customer := range edges {
				for _, units := range few {
					for _, order := range few {
						checkPack(t, api.Request{Kind: kind, Token: token, Customer: customer, Units: units, Order: order})
					}
				}
			}
		}
	}
}

func TestP4EachNumber(t *testing.T) {
	edges := append(append([]int{}, numbers...), noNumbers...)
	for _, k := range frames {
		for _, n := range edges {
			for place := range 4 {
				r := k.r
				*[]*int{&r.Token, &r.Customer, &r.Units, &r.Order}[place] = n
				checkPack(t, r)
			}
		}
	}
}

func TestP5Frames(t *testing.T) {
	for _, k := range frames {
		r, e := sale.Unpack(k.b)
		if e != api.OK || r != k.r {
			t.Errorf("Unpack(%v) = %+v, %d, want %+v, 0", k.b, r, e, k.r)
		}
	}
}

func TestP5NoFrames(t *testing.T) {
	for _, b := range [][]byte{
		nil,
		{},
		{0}, {1}, {2}, {3}, {4}, {5}, {255},
		{1, 1, 7, 0},
		{1, 0, 7, 3},
		{1, 1, 0, 3},
		{4, 0, 1},
		{4, 1, 0},
		{1, 1, 7, 131, 0},
		{1, 129, 0, 7, 3},
		{1, 1, 135, 128, 0, 3},
		{1, 1, 7, 3, 0},
		{1, 1, 7, 3, 1},
		{4, 7, 1, 1},
		{1, 1, 7},
		{1, 1, 7, 131},
		{2, 1, 1, 128, 128, 128, 128},
		{4, 7, 129, 128, 128, 128, 16},
		{4, 7, 128, 128, 128, 128, 17},
		{4, 7, 255, 255, 255, 255, 127},
		{4, 7, 128, 128, 128, 128, 144, 0},
		{4, 7, 129, 128, 128, 128, 128, 128, 128, 128, 128, 0},
		{4, 7, 129, 128, 128, 128, 128, 128, 128, 128, 128, 2}, // 1 past 64 bits
		{4, 7, 129, 128, 128, 128, 128, 128, 128, 128, 128, 128, 1},
		{5, 1, 1},
		{5, 1, 1, 1},
		{0, 1, 1, 1},
		{0, 1, 1},
		{129, 1, 7, 3},
		{129, 0, 1, 7, 3},
		{132, 7, 1},
	} {
		r, e := sale.Unpack(b)
		if e != api.ErrFrame || r != (api.Request{}) {
			t.Errorf("Unpack(%v) = %+v, %d, want zeros, %d", b, r, e, api.ErrFrame)
		}
	}
}

func TestP5BackAndForth(t *testing.T) {
	for _, kind := range []int{api.Ask, api.Confirm, api.Cancel, api.Poll} {
		for _, first := range numbers {
			for _, second := range numbers {
				for _, third := range numbers {
					r := api.Request{Kind: kind, Token: first, Customer: second, Order: third}
					if kind == api.Ask {
						r.Units, r.Order = third, 0
					}
					if kind == api.Poll {
						r.Token = 0
					}
					b, e := sale.Pack(r)
					if e != api.OK {
						t.Fatalf("Pack(%+v) = %v, %d", r, b, e)
					}
					back, e := sale.Unpack(b)
					if e != api.OK || back != r {
						t.Fatalf("Unpack(%v) = %+v, %d, want %+v, 0", b, back, e, r)
					}
				}
			}
		}
	}
}

// All short lists of bytes at the edges. This is P1 of Unpack too.
func TestP5ShortLists(t *testing.T) {
	edges := []byte{0, 1, 2, 3, 4, 5, 15, 16, 17, 127, 128, 129, 255}
	lists := [][]byte{{}}
	for range 5 {
		var longer [][]byte
		for _, b := range lists {
			checkUnpack(t, b)
			for _, last := range edges {
				longer = append(longer, append(append([]byte{}, b...), last))
			}
		}
		lists = longer
	}
	for _, b := range lists {
		checkUnpack(t, b)
	}
}

// Frames with one byte changed, taken out or put in, and all that they begin with.
func TestP5NearFrames(t *testing.T) {
	for _, k := range frames {
		for i := range len(k.b) + 1 {
			checkUnpack(t, k.b[:i])
			for v := range 256 {
				put := append(append(append([]byte{}, k.b[:i]...), byte(v)), k.b[i:]...)
				checkUnpack(t, put)
				if i < len(k.b) {
					changed := append([]byte{}, k.b...)
					changed[i] = byte(v)
					checkUnpack(t, changed)
				}
			}
			if i < len(k.b) {
				checkUnpack(t, append(append([]byte{}, k.b[:i]...), k.b[i+1:]...))
			}
		}
	}
}

func TestP1UnpackLongLists(t *testing.T) {
	for _, v := range []byte{0, 1, 2, 4, 127, 128, 129, 255} {
		for _, kind := range []byte{0, 1, 2, 3, 4, 5, 255} {
			for _, length := range []int{6, 7, 8, 9, 10, 11, 12, 16, 17, 31, 1 << 20} {
				b := bytes.Repeat([]byte{v}, length)
				b[0] = kind
				r, e := sale.Unpack(b)
				if e != api.ErrFrame || r != (api.Request{}) {
					t.Errorf("Unpack of %d, then %d times %d = %+v, %d", kind, length-1, v, r, e)
				}
			}
		}
	}
}

func TestP2UnpackWritesNothing(t *testing.T) {
	for _, k := range frames {
		for length := range len(k.b) + 1 {
			room := append(append([]byte{}, k.b...), 1, 128, 255, 0)
			before := bytes.Clone(room)
			sale.Unpack(room[:length])
			if !bytes.Equal(room, before) {
				t.Errorf("Unpack(%v) wrote into the list or its spare room: %v", before[:length], room)
			}
		}
	}
}

// What stands in the spare room is no part of the frame.
func TestP2UnpackReadsNoSpareRoom(t *testing.T) {
	for _, k := range frames {
		for length := range len(k.b) {
			if r, e := sale.Unpack(k.b[:length]); e != api.ErrFrame || r != (api.Request{}) {
				t.Errorf("Unpack(%v) with the rest in the spare room = %+v, %d", k.b[:length], r, e)
			}
		}
		room := append(append([]byte{}, k.b...), 1, 1, 1)
		if r, e := sale.Unpack(room[:len(k.b)]); e != api.OK || r != k.r {
			t.Errorf("Unpack(%v) with more in the spare room = %+v, %d", k.b, r, e)
		}
	}
}

func TestP2UnpackKeepsNothing(t *testing.T) {
	for _, k := range frames {
		b := bytes.Clone(k.b)
		r, _ := sale.Unpack(b)
		for i := range b {
			b[i] = 0
		}
		if r != k.r {
			t.Errorf("what Unpack(%v) told became %+v as the list was written into", k.b, r)
		}
		if again, e := sale.Unpack(b); e != api.ErrFrame {
			t.Errorf("Unpack of zeros behind Unpack(%v) = %+v, %d", k.b, again, e)
		}
		if again, e := sale.Unpack(k.b); e != api.OK || again != k.r {
			t.Errorf("Unpack(%v) once more = %+v, %d", k.b, again, e)
		}
	}
}

func TestP2PackIsFresh(t *testing.T) {
	for _, k := range frames {
		for _, other := range frames {
			first, _ := sale.Pack(k.r)
			second, _ := sale.Pack(other.r)
			first = first[:cap(first)]
			for i := range first {
				first[i] = 99
			}
			if !bytes.Equal(second, other.b) {
				t.Errorf("Pack(%+v) became %v as an earlier frame was written into", other.r, second)
			}
			if third, e := sale.Pack(other.r); e != api.OK || !bytes.Equal(third, other.b) {
				t.Errorf("Pack(%+v) = %v, %d, behind a frame that was written into", other.r, third, e)
			}
		}
	}
}
