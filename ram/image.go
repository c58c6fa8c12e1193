package ram

import (
	"slices"

	"hartix/api"
)

// Image tells the memory as plain data (P3.7).
func (m *Ram) Image() api.RamImage {
	img := api.RamImage{Frames: m.Frames()}
	for pa := range m.FreeList() {
		img.Free = append(img.Free, pa)
	}
	for i := range img.Frames {
		if pa := addressOf(i); m.isHeld(pa) {
			img.Held = append(img.Held, api.RamFrame{Pa: pa, Data: copied(m.frame(pa))})
		}
	}
	return img
}

// FromImage gives the memory of an image (P3.7).
func FromImage(img api.RamImage) (*Ram, error) {
	if !mayHave(img.Frames) {
		return nil, fault(0, api.ErrRamSize)
	}
	if at := wrongPlace(img); at != 0 {
		return nil, fault(at, api.ErrRamImage)
	}
	m := blank(img.Frames)
	for _, f := range img.Held {
		m.held[f.Pa] = struct{}{}
		copy(m.frame(f.Pa), f.Data)
	}
	for _, pa := range slices.Backward(img.Free) {
		m.thread(pa)
	}
	return m, nil
}

// wrongPlace gives the place at which an image of a right size is none that a memory has; 0: nowhere.
func wrongPlace(img api.RamImage) int {
	free, held := list[uint64](img.Free), list[api.RamFrame](img.Held)
	inFree := map[uint64]struct{}{}
	rightFree := free.firstThat(func(_ int, pa uint64) bool {
		_, twice := inFree[pa]
		inFree[pa] = struct{}{}
		return twice || pa == api.RamBase || !isFrame(pa, img.Frames)
	})
	if rightFree < len(free) {
		return 1 + rightFree
	}
	rightHeld := held.firstThat(func(place int, f api.RamFrame) bool {
		_, isFree := inFree[f.Pa]
		falls := place > 0 && f.Pa <= held[place-1].Pa
		return isFree || falls || !isFrame(f.Pa, img.Frames) || len(f.Data) != api.PageSize
	})
	// The right frames of both lists are all different: fewer than there are leave one out.
	if rightHeld < len(held) || rightFree+rightHeld < img.Frames {
		return 1 + rightFree + rightHeld
	}
	return 0
}
