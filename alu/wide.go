package alu

import (
	"math/bits"

	"hartix/api"
)

// Mul multiplies two words whole (P2.6).
func Mul(a, b uint64) api.Wide {
	var product api.Wide
	product.High, product.Low = bits.Mul64(a, b)
	return product
}

// Divide divides a wide number by a word (P2.7).
func Divide(n api.Wide, d uint64) (q, r uint64, err error) {
	// No High is below a d of 0, so that this refuses it too.
	if n.High >= d {
		return 0, 0, fault(api.ErrAluDiv)
	}
	r = n.High
eachBit:
	for bit := wordBits - 1; bit >= 0; bit-- {
		beyond := r>>(wordBits-1) != 0
		r = r<<1 | n.Low>>bit&1
		if !beyond && r < d {
			continue eachBit
		}
		// If a bit went beyond the word, the subtraction's wrap-round makes up for it: what is left is below d.
		r -= d
		q |= 1 << bit
	}
	return q, r, nil
}
