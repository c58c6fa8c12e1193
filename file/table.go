package file

// table is places by number, each with what stands there; nil: it is free.
type table[T any] struct{ places []*T }

func newTable[T any](places int) table[T] { return table[T]{make([]*T, places)} }

// get gives what stands at a number, nil for a number that may not be too.
func (t table[T]) get(number int) *T {
	if number < 0 || number >= len(t.places) {
		return nil
	}
	return t.places[number]
}

// add puts something at the lowest free place, and tells its number. Whoever calls it has looked whether there is one.
func (t table[T]) add(what *T) int {
	for number, there := range t.places {
		if there == nil {
			t.places[number] = what
			return number
		}
	}
	return len(t.places)
}

func (t table[T]) free(number int) { t.places[number] = nil }

// left tells how many places are free.
func (t table[T]) left() int {
	left := 0
	for _, there := range t.places {
		if there == nil {
			left++
		}
	}
	return left
}
