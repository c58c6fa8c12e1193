package engine

import (
	"math"
	"strings"

	"hartix/api"
)

func (r *reader) readFrames(words []word) {
	n := r.number(words[0])
	r.once(&r.hasFrames)
	r.script.Frames = n
}

func (r *reader) readBudget(words []word) {
	n := r.number(words[0])
	r.once(&r.hasBudget)
	r.script.Budget = n
}

func (r *reader) readInit(words []word) {
	r.once(&r.hasInit)
	r.script.Init = pathOf(words[0])
}

// pathOf gives a path that is no piece of the text: whoever keeps it does not keep the whole text.
func pathOf(w word) string { return strings.Clone(w.text) }

// dataOf gives a word's bytes; of none there is no list.
func dataOf(w word) []byte { return append([]byte(nil), w.text...) }

func (r *reader) readDir(words []word) {
	r.needsFile()
	r.addFile(api.BootFile{Path: pathOf(words[0]), Type: api.TypeDir})
}

func (r *reader) readDev(words []word) {
	major, minor := r.short(words[1]), r.short(words[2])
	r.needsFile()
	r.addFile(api.BootFile{Path: pathOf(words[0]), Type: api.TypeDev, Major: major, Minor: minor})
}

func (r *reader) short(w word) int16 { return int16(r.numberWithin(w, math.MinInt16, math.MaxInt16)) }

func (r *reader) readText(words []word) {
	r.needsFile()
	r.addFile(api.BootFile{Path: pathOf(words[0]), Type: api.TypeFile, Data: dataOf(words[1])})
}

// needsFile asks for room for a file. A block asks ahead of what stands in it.
func (r *reader) needsFile() { r.needs(1, len(r.script.Files), api.MaxBoot) }

func (r *reader) addFile(f api.BootFile) { r.script.Files = append(r.script.Files, f) }

func (r *reader) readTicks(words []word) {
	var ticks []int
	for _, w := range words {
		ticks = append(ticks, r.number(w))
	}
	r.needs(len(ticks), len(r.script.Ticks), api.MaxEvents)
	r.script.Ticks = append(r.script.Ticks, ticks...)
}

func (r *reader) readEvery(words []word) {
	from, step, count := r.number(words[0]), r.number(words[1]), r.number(words[2])
	if isBeyond(from, step, count) {
		r.giveUp(api.ErrEngineWord)
	}
	r.needs(count, len(r.script.Ticks), api.MaxEvents)
	for k := range count {
		r.script.Ticks = append(r.script.Ticks, from+k*step)
	}
}

// isBeyond tells whether the last of the ticks would be no number any more. It does not reckon that tick: an int may be too small for it.
func isBeyond(from, step, count int) bool {
	return step > 0 && count-1 > (api.MaxNumber-from)/step
}

func (r *reader) readInput(words []word) {
	at := r.number(words[0])
	r.needs(1, len(r.script.Inputs), api.MaxEvents)
	r.script.Inputs = append(r.script.Inputs, api.Input{At: at, Data: dataOf(words[1])})
}
