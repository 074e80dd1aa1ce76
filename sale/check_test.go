package sale_test

import (
	"math"
	"slices"
	"testing"

	"sale/api"
	"sale/sale"
)

func rightConfig() api.Config {
	return api.Config{
		Stock: 5, Cap: 4, Queue: 2, Lease: 10, Wait: 20, Keep: 30, Tokens: 8,
		Prices: []api.Tier{{From: 0, Cents: 100}, {From: 3, Cents: 150}},
	}
}

// tiers makes tiers of pairs of From and Cents.
func tiers(pairs [][2]int) []api.Tier {
	var list []api.Tier
	for _, p := range pairs {
		list = append(list, api.Tier{From: p[0], Cents: p[1]})
	}
	return list
}

// configNumbers names the numbers of a configuration, so that a test can set
// one after the other.
var configNumbers = []struct {
	name string
	of   func(c *api.Config) *int
}{
	{"Stock", func(c *api.Config) *int { return &c.Stock }},
	{"Cap", func(c *api.Config) *int { return &c.Cap }},
	{"Queue", func(c *api.Config) *int { return &c.Queue }},
	{"Lease", func(c *api.Config) *int { return &c.Lease }},
	{"Wait", func(c *api.Config) *int { return &c.Wait }},
	{"Keep", func(c *api.Config) *int { return &c.Keep }},
	{"Tokens", func(c *api.Config) *int { return &c.Tokens }},
}

func TestP3RightConfig(t *testing.T) {
	if e := sale.Check(rightConfig()); e != api.OK {
		t.Errorf("Check of the document's configuration = %d", e)
	}
}

func TestP3Numbers(t *testing.T) {
	for _, field := range configNumbers {
		c := rightConfig()
		for _, n := range numbers {
			*field.of(&c) = n
			if e := sale.Check(c); e != api.OK {
				t.Errorf("Check with %s %d = %d", field.name, n, e)
			}
		}
		for _, n := range noNumbers {
			*field.of(&c) = n
			if e := sale.Check(c); e != api.ErrConfig {
				t.Errorf("Check with %s %d = %d", field.name, n, e)
			}
		}
	}
}

func TestP3AllNumbersAtOneEdge(t *testing.T) {
	for _, k := range []struct {
		n    int
		want api.Errno
	}{{1, api.OK}, {api.MaxNumber, api.OK}, {0, api.ErrConfig}, {api.MaxNumber + 1, api.ErrConfig}, {math.MinInt, api.ErrConfig}} {
		c := rightConfig()
		for _, field := range configNumbers {
			*field.of(&c) = k.n
		}
		if e := sale.Check(c); e != k.want {
			t.Errorf("Check with all numbers %d = %d, want %d", k.n, e, k.want)
		}
	}
}

func TestP3RightPrices(t *testing.T) {
	for _, pairs := range [][][2]int{
		{{0, 1}},
		{{0, api.MaxCents}},
		{{0, 1}, {1, 1}},
		{{0, 9}, {1, 5}, {2, 7}},
		{{0, 1}, {api.MaxNumber, api.MaxCents}},
		{{0, 1}, {api.MaxNumber - 1, 2}, {api.MaxNumber, 3}},
		{{0, 4}, {1, 3}, {2, 2}, {3, 1}},
		{{0, 1}, {6, 2}, {1000, 3}, {api.MaxNumber, 4}}, // a From may be above Stock
	} {
		c := rightConfig()
		c.Prices = tiers(pairs)
		if e := sale.Check(c); e != api.OK {
			t.Errorf("Check with prices %v = %d", pairs, e)
		}
	}
}

func TestP3WrongPrices(t *testing.T) {
	for _, pairs := range [][][2]int{
		nil,
		{{1, 1}},
		{{-1, 1}},
		{{math.MinInt, 1}},
		{{math.MaxInt, 1}},
		{{3, 1}, {4, 1}},
		{{-1, 1}, {0, 1}},
		{{0, 1}, {0, 1}},
		{{0, 1}, {-1, 1}},
		{{0, 1}, {math.MinInt, 1}},
		{{0, 1}, {2, 1}, {1, 1}},
		{{0, 1}, {2, 1}, {2, 1}},
		{{0, 1}, {2, 1}, {0, 1}},
		{{0, 1}, {1, 1}, {2, 1}, {2, 1}},
		{{0, 1}, {api.MaxNumber + 1, 1}},
		{{0, 1}, {math.MaxInt, 1}},
		{{0, 1}, {1, 1}, {2, 1}, {api.MaxNumber + 1, 1}},
		{{0, 1}, {1, 1}, {2, 1}, {3, 1}, {4, 1}},
	} {
		c := rightConfig()
		c.Prices = tiers(pairs)
		if e := sale.Check(c); e != api.ErrConfig {
			t.Errorf("Check with prices %v = %d", pairs, e)
		}
	}
}

func TestP3Cents(t *testing.T) {
	for i := range api.MaxTiers {
		for _, k := range []struct {
			cents int
			want  api.Errno
		}{
			{1, api.OK}, {2, api.OK}, {api.MaxCents - 1, api.OK}, {api.MaxCents, api.OK},
			{0, api.ErrConfig}, {-1, api.ErrConfig}, {api.MaxCents + 1, api.ErrConfig}, {api.MaxNumber, api.ErrConfig},
			{math.MaxInt, api.ErrConfig}, {math.MinInt, api.ErrConfig},
		} {
			c := rightConfig()
			c.Prices = tiers([][2]int{{0, 5}, {1, 5}, {2, 5}, {3, 5}})
			c.Prices[i].Cents = k.cents
			if e := sale.Check(c); e != k.want {
				t.Errorf("Check with Cents %d in tier %d = %d, want %d", k.cents, i, e, k.want)
			}
		}
	}
}

// A configuration that is wrong in one thing stays wrong, whatever the others are.
func TestP3SeveralFaults(t *testing.T) {
	c := rightConfig()
	c.Stock, c.Tokens, c.Prices = 0, api.MaxNumber+1, nil
	if e := sale.Check(c); e != api.ErrConfig {
		t.Errorf("Check with three faults = %d", e)
	}
	if e := sale.Check(api.Config{}); e != api.ErrConfig {
		t.Errorf("Check of zeros = %d", e)
	}
}

func TestP1CheckAllLists(t *testing.T) {
	edges := []int{math.MinInt, -1, 0, 1, api.MaxCents, api.MaxCents + 1, api.MaxNumber, api.MaxNumber + 1, math.MaxInt}
	for _, from := range edges {
		for _, cents := range edges {
			for _, length := range []int{0, 1, 2, 3, 4, 5, 6, 1000, 1 << 20} {
				c := rightConfig()
				c.Prices = make([]api.Tier, length)
				if length > 0 {
					c.Prices[length-1] = api.Tier{From: from, Cents: cents}
				}
				right := length == 1 && from == 0 && cents >= 1 && cents <= api.MaxCents
				if e := sale.Check(c); (e == api.OK) != right || e != api.OK && e != api.ErrConfig {
					t.Errorf("Check with %d tiers, at the end %d, %d = %d", length, from, cents, e)
				}
			}
		}
	}
}

func TestP2CheckWritesNothing(t *testing.T) {
	for _, length := range []int{0, 1, 2, 3, 4, 5} {
		room := tiers([][2]int{{0, 5}, {1, 6}, {2, 7}, {3, 8}, {4, 9}, {77, 88}})
		before := slices.Clone(room)
		c := rightConfig()
		c.Prices = room[:length]
		want := api.OK
		if length < 1 || length > api.MaxTiers {
			want = api.ErrConfig
		}
		if e := sale.Check(c); e != want {
			t.Errorf("Check with %d tiers = %d, want %d", length, e, want)
		}
		if !slices.Equal(room, before) {
			t.Errorf("Check with %d tiers wrote into the prices or their spare room: %v", length, room)
		}
	}
}

// What stands in the spare room is no tier, right or wrong.
func TestP2CheckReadsNoSpareRoom(t *testing.T) {
	c := rightConfig()
	room := tiers([][2]int{{0, 5}, {0, 0}, {-1, -1}, {0, 0}, {0, 0}, {0, 0}})
	c.Prices = room[:1]
	if e := sale.Check(c); e != api.OK {
		t.Errorf("Check with wrong tiers in the spare room = %d", e)
	}
}

func TestP2CheckKeepsNothing(t *testing.T) {
	c := rightConfig()
	sale.Check(c)
	c.Prices[1].From = 0
	if e := sale.Check(c); e != api.ErrConfig {
		t.Errorf("Check of prices that were made wrong behind a call = %d", e)
	}
	if e := sale.Check(rightConfig()); e != api.OK {
		t.Errorf("Check of a right configuration behind a wrong one = %d", e)
	}
	c.Prices[1].From = 3
	if e := sale.Check(c); e != api.OK {
		t.Errorf("Check of prices that were mended behind a call = %d", e)
	}
}
