package engine

import (
	"strings"

	"hartix/api"
	"hartix/asm"
	"hartix/elf"
)

func (r *reader) readBytes(words []word) {
	r.needsFile()
	first := r.at
	var data []byte
	for k, line := range r.block(endsBytes) {
		more, ok := lineBytes(line)
		if !ok {
			r.giveUpAt(first+1+k, api.ErrEngineWord)
		}
		data = append(data, more...)
	}
	r.addFile(api.BootFile{Path: pathOf(words[0]), Type: api.TypeFile, Data: data})
}

func (r *reader) readAsm(words []word) {
	r.needsFile()
	first := r.at
	file, err := assembled(r.block(endsAsm))
	if err != nil {
		r.giveUpAt(first, err)
	}
	r.addFile(api.BootFile{Path: pathOf(words[0]), Type: api.TypeFile, Data: file})
}

// block gives the lines between the line that is looked at, a block's first, and the block's end; that is the one that is looked at then.
func (r *reader) block(isEnd func(line string) bool) []string {
	end := r.at
search:
	for {
		switch {
		case end == len(r.lines):
			r.giveUp(api.ErrEngineEnd)
		case isEnd(r.lines[end]):
			break search
		}
		end++
	}
	inside := r.lines[r.at:end]
	r.at = end + 1
	return inside
}

func endsBytes(line string) bool {
	words, ok := cut(line)
	return ok && len(words) == 1 && words[0] == word{text: endWord, plain: true}
}

// endsAsm asks for more than endsBytes: a remark behind the word is the program's, and so is the word then.
func endsAsm(line string) bool { return strings.Trim(line, blanks) == endWord }

// lineBytes gives the bytes of a line of digits; false, if a word of it is none.
func lineBytes(line string) (data []byte, ok bool) {
	words, ok := cut(line)
	if !ok {
		return nil, false
	}
	for _, w := range words {
		more, ok := hexBytes(w)
		if !ok {
			return nil, false
		}
		data = append(data, more...)
	}
	return data, true
}

// assembled gives the file of the program whose text these lines are.
func assembled(lines []string) ([]byte, error) {
	var text strings.Builder
	for _, line := range lines {
		text.WriteString(line)
		text.WriteByte('\n')
	}
	image, err := asm.Assemble(text.String())
	if err != nil {
		return nil, err
	}
	return elf.Write(asm.Program(image))
}
