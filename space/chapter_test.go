package space_test

// What the chapter says, read a second time: a space as a plain list of pages with their bytes, addresses as whole numbers without a width, bytes looked at one by one, so that the tests do not lean on the code they test.

import (
	"bytes"
	"math/big"
	"slices"

	"hartix/api"
	"hartix/ram"
)

const (
	page    = 4096
	first   = 0x80000000 // the first frame
	userTop = 1<<38 - 3*page

	mayRead, mayWrite, mayFetch, isUsers = 2, 4, 8, 16
	accessed, dirty, valid               = 64, 128, 1

	rw = mayRead | mayWrite
)

// plainPage is a page without a frame.
type plainPage struct {
	data []byte
	perm uint64 // mayRead, mayWrite, mayFetch, isUsers
}

// plain is what a space must be.
type plain struct {
	size             uint64
	pages            []plainPage
	trapframe, tramp uint64
}

// nodesOf reckons nodes(p) from what the nodes are for: the root; two for the highest addresses; one for each different va / 2^30, and one for each different va / 2^21.
func nodesOf(pages int) int {
	kinds := map[[2]int]bool{}
	for k := range pages {
		kinds[[2]int{1, k * page >> 30}] = true
		kinds[[2]int{2, k * page >> 21}] = true
	}
	return 3 + len(kinds)
}

// pagesFor is a size divided by 4096, rounded up.
func pagesFor(size uint64) int {
	n, rest := new(big.Int).DivMod(whole(size), big.NewInt(page), new(big.Int))
	if rest.Sign() > 0 {
		n.Add(n, big.NewInt(1))
	}
	return int(n.Int64())
}

func whole(v uint64) *big.Int { return new(big.Int).SetUint64(v) }

// isHeldFrame tells whether a memory that was made has a held frame at that address.
func isHeldFrame(r *ram.Ram, pa uint64) bool {
	_, isFrame := r.Raw(pa)
	return isFrame && !r.IsFree(pa)
}

// wantNew is P8.2.
func wantNew(r *ram.Ram, trapframe, tramp uint64) (*plain, api.Errno) {
	switch {
	case r.Frames() == 0:
		return nil, api.ErrZero
	case !isHeldFrame(r, trapframe), !isHeldFrame(r, tramp), trapframe == tramp:
		return nil, api.ErrSpaceFrame
	case r.Count() < 3:
		return nil, api.ErrSpaceRoom
	}
	return &plain{trapframe: trapframe, tramp: tramp}, api.OK
}

// wantGrow is P8.4: it does to the plain space what Grow shall do.
func (m *plain) wantGrow(free int, to, perm uint64) api.Errno {
	if to < m.size || to > userTop {
		return api.ErrSpaceSize
	}
	if !slices.Contains([]uint64{mayRead, mayFetch, mayRead | mayFetch, rw, rw | mayFetch}, perm) {
		return api.ErrSpacePerm
	}
	p, q := len(m.pages), pagesFor(to)
	if q > 4096 || q-p+nodesOf(q)-nodesOf(p) > free {
		return api.ErrSpaceRoom
	}
	for len(m.pages) < q {
		m.pages = append(m.pages, plainPage{make([]byte, page), perm | isUsers})
	}
	if to > m.size {
		for at := m.size; at < uint64(q)*page; at++ {
			m.pages[at/page].data[at%page] = 0
		}
	}
	m.size = to
	return api.OK
}

// wantShrink is P8.5.
func (m *plain) wantShrink(to uint64) api.Errno {
	if to > m.size {
		return api.ErrSpaceSize
	}
	m.size = to
	m.pages = m.pages[:pagesFor(to):pagesFor(to)]
	return api.OK
}

// wantGuard is P8.6.
func (m *plain) wantGuard(page int) api.Errno {
	if page < 0 || page >= len(m.pages) {
		return api.ErrSpacePage
	}
	m.pages[page].perm &= mayRead | mayWrite | mayFetch
	return api.OK
}

// wantCopy is P8.7.
func (m *plain) wantCopy(r *ram.Ram, trapframe uint64) (*plain, api.Errno) {
	if !isHeldFrame(r, trapframe) || !isHeldFrame(r, m.tramp) || trapframe == m.tramp || trapframe == m.trapframe {
		return nil, api.ErrSpaceFrame
	}
	if m.holds() > r.Count() {
		return nil, api.ErrSpaceRoom
	}
	c := &plain{size: m.size, trapframe: trapframe, tramp: m.tramp}
	for _, p := range m.pages {
		c.pages = append(c.pages, plainPage{bytes.Clone(p.data), p.perm})
	}
	return c, api.OK
}

// holds is how many frames are its own.
func (m *plain) holds() int { return len(m.pages) + nodesOf(len(m.pages)) }

// byteAt gives the place of the byte with that address, if its page is the user's and has that right.
func (m *plain) byteAt(at *big.Int, right uint64) *byte {
	if at.Cmp(big.NewInt(int64(len(m.pages))*page)) >= 0 {
		return nil
	}
	p := m.pages[at.Int64()/page]
	if p.perm&isUsers == 0 || p.perm&right == 0 {
		return nil
	}
	return &p.data[at.Int64()%page]
}

// row gives the places of the bytes from va on, n at most, that can be reached without a gap.
func (m *plain) row(va uint64, n int, right uint64) []*byte {
	var all []*byte
	for at := whole(va); len(all) < n; at.Add(at, big.NewInt(1)) {
		b := m.byteAt(at, right)
		if b == nil {
			break
		}
		all = append(all, b)
	}
	return all
}

// wantIn is P8.9.
func (m *plain) wantIn(va uint64, n int) ([]byte, bool) {
	if n < 0 || len(m.row(va, n, mayRead)) < n {
		return nil, false
	}
	var all []byte
	for _, b := range m.row(va, n, mayRead) {
		all = append(all, *b)
	}
	return all, true
}

// wantCanOut and wantOut are P8.10.
func (m *plain) wantCanOut(va uint64, n int) bool {
	return n >= 0 && len(m.row(va, n, mayWrite)) == n
}

func (m *plain) wantOut(va uint64, b []byte) bool {
	if !m.wantCanOut(va, len(b)) {
		return false
	}
	for k, at := range m.row(va, len(b), mayWrite) {
		*at = b[k]
	}
	return true
}

// wantStr is P8.11.
func (m *plain) wantStr(va uint64, most int) (string, bool) {
	var text []byte
	for _, b := range m.row(va, most, mayRead) {
		if *b == 0 {
			return string(text), true
		}
		text = append(text, *b)
	}
	return "", false
}

// wantPoke is P8.12.
func (m *plain) wantPoke(va uint64, b []byte) bool {
	end := whole(va)
	end.Add(end, big.NewInt(int64(len(b))))
	if end.Cmp(whole(m.size)) > 0 {
		return false
	}
	for k, c := range b {
		at := va + uint64(k)
		m.pages[at/page].data[at%page] = c
	}
	return true
}
