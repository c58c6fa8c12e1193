package call

import "hartix/api"

// noArgument is thrown where an argument can't be fetched: the call is given up (see ask).
type noArgument struct{}

// number gives an int argument.
func (c *caller) number(k int) int { return int(int32(c.call.Args[k])) }

// text gives a text argument.
func (c *caller) text(k int) string { return c.textAt(c.call.Args[k], api.MaxPath) }

func (c *caller) textAt(at uint64, most int) string {
	text, ok := c.space.Str(at, most)
	if !ok {
		panic(noArgument{})
	}
	return text
}

// in gives bytes of the caller's memory.
func (c *caller) in(at uint64, n int) []byte {
	b, ok := c.space.In(at, n)
	if !ok {
		panic(noArgument{})
	}
	return b
}

// out writes bytes into the caller's memory: all of them, or the call is given up.
func (c *caller) out(at uint64, b []byte) {
	if !c.space.Out(at, b) {
		panic(noArgument{})
	}
}

// opened gives the open file of the descriptor that is an argument.
func (c *caller) opened(k int) int {
	f := c.fds.of(c.number(k))
	if f == noFile {
		panic(noArgument{})
	}
	return f
}

// texts gives the texts whose addresses stand one behind the other, up to a 0.
func (c *caller) texts(at uint64) []string {
	var all []string
	for {
		q := c.address(at)
		if q == 0 {
			return all
		}
		if len(all) == api.MaxArgs {
			panic(noArgument{})
		}
		all = append(all, c.textAt(q, api.PageSize))
		at += wordSize
	}
}

func (c *caller) address(at uint64) uint64 {
	address := uint64(0)
	for k, low := range c.in(at, wordSize) {
		address |= uint64(low) << (8 * k)
	}
	return address
}
