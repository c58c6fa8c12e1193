package call

import (
	"iter"

	"hartix/api"
)

// slots is a table of what belongs to the slots of processes; nil: the slot is free.
type slots[T any] [api.MaxProcs]*T

// at gives what belongs to a slot, nil for a number that is none too.
func (s *slots[T]) at(slot int) *T {
	if slot < 0 || slot >= len(s) {
		return nil
	}
	return s[slot]
}

// taken gives the slots that are not free, rising.
func (s *slots[T]) taken() iter.Seq2[int, *T] {
	return func(yield func(int, *T) bool) {
		for slot, what := range s {
			if what != nil && !yield(slot, what) {
				return
			}
		}
	}
}
