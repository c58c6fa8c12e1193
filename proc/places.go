package proc

import "hartix/api"

// places is a table of things by number: as many as there are slots.
type places[T any] [api.MaxProcs]T

// at gives the place of a number, nil for a number that may not be.
func (p *places[T]) at(number int) *T {
	if number < 0 || number >= len(p) {
		return nil
	}
	return &p[number]
}

// goRound goes once round all places, from a number on, and gives the first of which asked says yes; -1 and false, if there is none.
func goRound[T any](p *places[T], from int, asked func(T) bool) (int, bool) {
	for k := range len(p) {
		number := (from + k) % len(p)
		if asked(p[number]) {
			return number, true
		}
	}
	return -1, false
}

// least gives the least place of which asked says yes; -1 and false, if there is none.
func least[T any](p *places[T], asked func(T) bool) (int, bool) { return goRound(p, 0, asked) }
