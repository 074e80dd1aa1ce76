package sale_test

import "math"

// numbers are those from 1 to MaxNumber at an edge: of the bounds, of a group
// of seven bits.
var numbers = []int{
	1, 2, 127, 128, 300, 1<<14 - 1, 1 << 14, 1<<21 - 1, 1 << 21, 1<<28 - 1, 1 << 28, 1<<32 - 1, 1 << 32,
}

// noNumbers are below 1 or above MaxNumber.
var noNumbers = []int{
	0, -1, -128, 1<<32 + 1, 1<<35 - 1, 1 << 35, 1<<35 + 1, 1<<62 + 1, math.MaxInt, math.MinInt, -1 << 32, math.MinInt + 1,
}
