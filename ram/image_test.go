package ram_test

import (
	"math"
	"reflect"
	"slices"
	"testing"

	"hartix/api"
	"hartix/ram"
)

func TestImageAndBack(t *testing.T) {
	for _, frames := range []int{1, 2, 6, 40} {
		m, w := both(t, frames)
		checkBack(t, m, w)
		for range frames {
			m.Alloc()
			w.alloc()
		}
		checkBack(t, m, w)
	}
	checkBack(mixedWith(t))
}

func mixedWith(t *testing.T) (*testing.T, *ram.Ram, *model) {
	m, w := mixed(t)
	return t, m, w
}

// checkBack: the memory of an image is like the one it was told of, in all that follows too, and apart from it.
func checkBack(t *testing.T, m *ram.Ram, w *model) {
	t.Helper()
	n, err := ram.FromImage(m.Image())
	if err != nil {
		t.Fatalf("FromImage: %v", err)
	}
	checkSame(t, "FromImage", n, w)
	v := copyOf(w)
	walk(t, n, v, 60, 11)
	checkSame(t, "the memory that was told of", m, w)
}

func copyOf(w *model) *model {
	img := w.image()
	v := &model{frames: w.frames, free: img.Free, held: map[uint64][]byte{}}
	for _, f := range img.Held {
		v.held[f.Pa] = f.Data
	}
	return v
}

func TestImageIsNew(t *testing.T) {
	m, w := mixed(t)
	img, again := m.Image(), m.Image()
	clear(img.Free[:cap(img.Free)])
	for i := range img.Held {
		clear(img.Held[i].Data[:cap(img.Held[i].Data)])
		for j, other := range img.Held {
			if want := w.held[other.Pa]; j > i && !slices.Equal(other.Data, want) {
				t.Errorf("the frames %d and %d of an image share memory", i, j)
			}
		}
	}
	clear(img.Held[:cap(img.Held)])
	checkSame(t, "an image was changed", m, w)
	if !reflect.DeepEqual(again, w.image()) {
		t.Error("two images share memory")
	}
}

func TestFromImageKeepsNothing(t *testing.T) {
	_, w := mixed(t)
	img := w.image()
	m, err := ram.FromImage(img)
	if err != nil {
		t.Fatal(err)
	}
	if !reflect.DeepEqual(img, w.image()) {
		t.Error("FromImage has changed what it was given")
	}
	clear(img.Free)
	for _, f := range img.Held {
		clear(f.Data)
	}
	checkSame(t, "what FromImage was given was changed", m, w)
	img = w.image()
	walk(t, m, copyOf(w), 60, 5)
	if !reflect.DeepEqual(img, w.image()) {
		t.Error("the memory writes into what FromImage was given")
	}
}

func TestFromImageRefusesSizes(t *testing.T) {
	for _, frames := range []int{0, -1, math.MinInt, 4097, math.MaxInt, 1<<52 + 6} {
		_, w := mixed(t)
		img := w.image()
		img.Frames = frames
		m, err := ram.FromImage(img)
		checkFault(t, "size", m, err, 0, api.ErrRamSize)
		img.Free, img.Held = []uint64{0}, nil
		m, err = ram.FromImage(img)
		checkFault(t, "size ahead of all else", m, err, 0, api.ErrRamSize)
		_, again := ram.FromImage(img)
		if err == again {
			t.Error("the same fault twice")
		}
	}
	m, err := ram.FromImage(api.RamImage{})
	checkFault(t, "nothing", m, err, 0, api.ErrRamSize)
}

// The image of mixed has Free 4, 1 and Held 0, 2, 3, 5.
func TestFromImageRefuses(t *testing.T) {
	for what, e := range map[string]struct {
		wrong func(i *api.RamImage)
		at    int
	}{
		"free: no frame, first":             {func(i *api.RamImage) { i.Free[0]++ }, 1},
		"free: no frame, second":            {func(i *api.RamImage) { i.Free[1] -= 8 }, 2},
		"free: ahead of the memory":         {func(i *api.RamImage) { i.Free[1] = base - page }, 2},
		"free: behind the memory":           {func(i *api.RamImage) { i.Free[1] = frameAt(6) }, 2},
		"free: 0":                           {func(i *api.RamImage) { i.Free[0] = 0 }, 1},
		"free: far above":                   {func(i *api.RamImage) { i.Free[0] = 1<<64 - page }, 1},
		"free: beyond 32 bits":              {func(i *api.RamImage) { i.Free[0] += 1 << 32 }, 1},
		"free: the first frame":             {func(i *api.RamImage) { i.Free[1] = base }, 2},
		"free: twice":                       {func(i *api.RamImage) { i.Free[1] = i.Free[0] }, 2},
		"free: twice, third":                {func(i *api.RamImage) { i.Free = append(i.Free, frameAt(4)) }, 3},
		"free ahead of held":                {func(i *api.RamImage) { i.Free[1] = 1; i.Held[0].Data = nil }, 2},
		"free: in Held":                     {func(i *api.RamImage) { i.Free[1] = frameAt(2) }, 1 + 2 + 1},
		"held: in Free":                     {func(i *api.RamImage) { i.Held[1].Pa = frameAt(1) }, 1 + 2 + 1},
		"held: in Free, last":               {func(i *api.RamImage) { i.Held[2].Pa, i.Held[3].Pa = frameAt(3), frameAt(4) }, 1 + 2 + 3},
		"held: no frame, first":             {func(i *api.RamImage) { i.Held[0].Pa++ }, 1 + 2},
		"held: ahead of the memory":         {func(i *api.RamImage) { i.Held[0].Pa = base - page }, 1 + 2},
		"held: 0":                           {func(i *api.RamImage) { i.Held[0].Pa = 0 }, 1 + 2},
		"held: no frame, third":             {func(i *api.RamImage) { i.Held[2].Pa += 4095 }, 1 + 2 + 2},
		"held: behind the memory":           {func(i *api.RamImage) { i.Held[3].Pa = frameAt(6) }, 1 + 2 + 3},
		"held: far above":                   {func(i *api.RamImage) { i.Held[3].Pa += 1 << 32 }, 1 + 2 + 3},
		"held: one more, behind the memory": {func(i *api.RamImage) { i.Held = append(i.Held, api.RamFrame{Pa: frameAt(6), Data: make([]byte, page)}) }, 1 + 2 + 4},
		"held: twice":                       {func(i *api.RamImage) { i.Held[2].Pa = i.Held[1].Pa }, 1 + 2 + 2},
		"held: twice at the end":            {func(i *api.RamImage) { i.Held = append(i.Held, i.Held[3]) }, 1 + 2 + 4},
		"held: falls":                       {func(i *api.RamImage) { i.Held[1], i.Held[2] = i.Held[2], i.Held[1] }, 1 + 2 + 2},
		"held: the first twice":             {func(i *api.RamImage) { i.Held[1].Pa = base }, 1 + 2 + 1},
		"held: falls at once":               {func(i *api.RamImage) { i.Held[0], i.Held[1] = i.Held[1], i.Held[0] }, 1 + 2 + 1},
		"held: falls to the first":          {func(i *api.RamImage) { i.Held[3] = i.Held[0] }, 1 + 2 + 3},
		"held: no bytes":                    {func(i *api.RamImage) { i.Held[1].Data = nil }, 1 + 2 + 1},
		"held: a byte less":                 {func(i *api.RamImage) { i.Held[0].Data = i.Held[0].Data[:page-1] }, 1 + 2},
		"held: a byte more":                 {func(i *api.RamImage) { i.Held[3].Data = make([]byte, page+1) }, 1 + 2 + 3},
		"held: the first of two":            {func(i *api.RamImage) { i.Held[2].Data, i.Held[3].Pa = nil, 1 }, 1 + 2 + 2},
		"held ahead of neither":             {func(i *api.RamImage) { i.Free, i.Held[3].Pa = nil, 1 }, 1 + 3},
		"neither: the first frame":          {func(i *api.RamImage) { i.Held = i.Held[1:] }, 1 + 2 + 3},
		"neither: the last held":            {func(i *api.RamImage) { i.Held = i.Held[:3] }, 1 + 2 + 3},
		"neither: a free one":               {func(i *api.RamImage) { i.Free = i.Free[:1] }, 1 + 1 + 4},
		"neither: a frame more":             {func(i *api.RamImage) { i.Frames++ }, 1 + 2 + 4},
		"neither: nothing is told":          {func(i *api.RamImage) { i.Free, i.Held = nil, nil }, 1},
		"a frame less":                      {func(i *api.RamImage) { i.Frames-- }, 1 + 2 + 3},
	} {
		_, w := mixed(t)
		img := w.image()
		e.wrong(&img)
		m, err := ram.FromImage(img)
		checkFault(t, what, m, err, e.at, api.ErrRamImage)
	}
}

// The order of Free is the thread's, whatever the addresses are.
func TestFromImageOfAnyOrder(t *testing.T) {
	for _, order := range [][]int{{1, 2, 3}, {3, 2, 1}, {2, 3, 1}, {2, 1, 3}} {
		w := newModel(4)
		for i, n := range order {
			w.free[i] = frameAt(n)
		}
		m, err := ram.FromImage(w.image())
		if err != nil {
			t.Fatalf("%v: %v", order, err)
		}
		checkSame(t, "order", m, w)
		walk(t, m, w, 40, 9)
	}
}

// The trampoline's bytes are the image's, whatever they are.
func TestFromImageOfAnotherTrampoline(t *testing.T) {
	w := newModel(2)
	w.store(base, 8, 0x1234)
	m, err := ram.FromImage(w.image())
	if err != nil {
		t.Fatal(err)
	}
	checkSame(t, "another trampoline", m, w)
}

func TestFromImageOfAllFrames(t *testing.T) {
	m, w := both(t, api.MaxFrames)
	for range 2000 {
		m.Alloc()
		w.alloc()
	}
	n, err := ram.FromImage(m.Image())
	if err != nil || n.Count() != 2095 || !slices.Equal(freeOf(n), w.free) || n.Frames() != 4096 {
		t.Errorf("%v, Count %d", err, n.Count())
	}
}
