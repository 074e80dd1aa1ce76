package sale

import "sale/api"

// maxGroups is how many groups of seven bits MaxNumber needs. A longer number
// is above MaxNumber or has a group too many, so reading can stop there, long
// before an int overflows.
const maxGroups = 5

// Pack writes a request as bytes (P4).
func Pack(r api.Request) ([]byte, api.Errno) {
	numbers := numbersOf(r)
	if len(numbers) == 0 || !areNumbers(numbers) {
		return nil, api.ErrFrame
	}
	// What the kind does not have is lost here, so that a request which has it
	// comes back as another.
	if requestOf(r.Kind, numbers) != r {
		return nil, api.ErrFrame
	}
	frame := []byte{byte(r.Kind)}
	for i := 0; i < len(numbers); i++ {
		groups := groupsOf(numbers[i])
		frame = append(frame, groups...)
	}
	return frame, api.OK
}

// Unpack reads a request out of bytes (P5).
func Unpack(b []byte) (api.Request, api.Errno) {
	if len(b) == 0 {
		return api.Request{}, api.ErrFrame
	}
	kind := int(b[0])
	count := len(numbersOf(api.Request{Kind: kind}))
	if count == 0 {
		return api.Request{}, api.ErrFrame
	}
	numbers, ok := readNumbers(b[1:], count)
	if !ok || !areNumbers(numbers) {
		return api.Request{}, api.ErrFrame
	}
	return requestOf(kind, numbers), api.OK
}

// numbersOf lists the numbers that the request's kind has, in the order in
// which they stand in a frame; none, if the kind is none.
func numbersOf(r api.Request) []int {
	switch r.Kind {
	case api.Ask:
		return []int{r.Token, r.Customer, r.Units}
	case api.Confirm, api.Cancel:
		return []int{r.Token, r.Customer, r.Order}
	case api.Poll:
		return []int{r.Customer, r.Order}
	}
	return nil
}

// requestOf is the other way round: the request of which numbersOf gives these
// numbers, zeros if there is none.
func requestOf(kind int, numbers []int) api.Request {
	switch {
	case kind == api.Ask && len(numbers) == 3:
		return api.Request{Kind: kind, Token: numbers[0], Customer: numbers[1], Units: numbers[2]}
	case (kind == api.Confirm || kind == api.Cancel) && len(numbers) == 3:
		return api.Request{Kind: kind, Token: numbers[0], Customer: numbers[1], Order: numbers[2]}
	case kind == api.Poll && len(numbers) == 2:
		return api.Request{Kind: kind, Customer: numbers[0], Order: numbers[1]}
	}
	return api.Request{}
}

// groupsOf writes a number that is not below 0 in groups of seven bits.
func groupsOf(n int) []byte {
	groups := []byte{}
	for n >= 128 {
		groups = append(groups, byte(n%128+128))
		n = n / 128
	}
	return append(groups, byte(n))
}

// readNumbers reads so many numbers; false, if the bytes are not just these.
func readNumbers(b []byte, count int) ([]int, bool) {
	numbers := []int{}
	for i := 0; i < count; i++ {
		n, length := readNumber(b)
		if length < 1 || length > len(b) {
			return nil, false
		}
		numbers = append(numbers, n)
		b = b[length:]
	}
	return numbers, len(b) == 0
}

// readNumber reads the number at the beginning, and tells how many bytes it
// has: 0, if none that Pack would write begins there.
func readNumber(b []byte) (int, int) {
	n := 0
	weight := 1
	for i := 0; i < len(b) && i < maxGroups; i++ {
		group := int(b[i])
		if group == 0 && i > 0 {
			return 0, 0
		}
		n = n + group%128*weight
		if group < 128 {
			return n, i + 1
		}
		weight = weight * 128
	}
	return 0, 0
}
