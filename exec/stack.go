package exec

import "hartix/api"

// stack is the stack's page as it shall be, and the address down to which it is full.
type stack struct {
	page []byte
	sp   uint64
}

const (
	stackStep   = 16 // all that is laid on a stack begins at a multiple
	addressSize = 8
)

// stackOf lays the arguments on a page that shall begin at an address; false, if they have no room.
func stackOf(at uint64, args []string) (stack, bool) {
	page := make([]byte, api.PageSize)
	place := len(page)
	// The page begins at a multiple of stackStep, so that places may be rounded instead of addresses.
	lay := func(text string, zeros int) bool {
		place = (place - len(text) - zeros) &^ (stackStep - 1)
		if place < 0 {
			return false
		}
		copy(page[place:], text)
		return true
	}
	var addresses []byte
	for _, arg := range args {
		if !lay(arg, 1) {
			return stack{}, false
		}
		addresses = appendAddress(addresses, at+uint64(place))
	}
	if !lay(string(addresses), addressSize) {
		return stack{}, false
	}
	return stack{page: page, sp: at + uint64(place)}, true
}

// appendAddress appends an address, its low byte first.
func appendAddress(b []byte, address uint64) []byte {
	for range addressSize {
		b = append(b, byte(address))
		address >>= 8
	}
	return b
}
