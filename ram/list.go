package ram

// list is frames in an order, each as an F: by its address alone, or by its address and its bytes.
type list[F any] []F

func (l list[F]) each(yield func(F) bool) {
	for _, f := range l {
		if !yield(f) {
			return
		}
	}
}

// firstThat gives the place of the first frame that is so; their number, if none is.
func (l list[F]) firstThat(isSo func(place int, f F) bool) int {
	for place, f := range l {
		if isSo(place, f) {
			return place
		}
	}
	return len(l)
}
