package file_test

// The chapter read a second time: open files and pipes in maps, a pipe as the list of its bytes. The tree and the console under them are those of the layers below, each beside the one that the tested table has.

import (
	"hartix/api"
	"hartix/console"
	"hartix/tree"
)

const (
	mostFiles = 100
	mostPipes = 32
	mostBytes = 512 // of a pipe
)

type plainPipe struct {
	in            []byte
	reads, writes int
}

type plain struct {
	x     *tree.Tree
	c     *console.Console
	files map[int]api.FileLook
	pipes map[int]plainPipe
}

// lowest gives the lowest number that a map does not have.
func lowest[T any](taken map[int]T) int {
	for n := 0; ; n++ {
		if _, ok := taken[n]; !ok {
			return n
		}
	}
}

// has tells whether there is an open file of that kind of that pipe.
func (m *plain) has(kind, p int) bool {
	for _, f := range m.files {
		if f.Kind == kind && f.Pipe == p {
			return true
		}
	}
	return false
}

func (m *plain) open(ino int, readable, writable bool) (int, api.Errno) {
	look := m.x.Look(ino)
	if look.Ino == 0 {
		return 0, api.ErrFileIno
	}
	if look.Type == api.TypeDir && writable {
		return 0, api.ErrFileIno
	}
	if len(m.files) == mostFiles {
		return 0, api.ErrFileFull
	}
	if m.x.Hold(ino) != api.OK {
		return 0, api.ErrFileIno
	}
	f := lowest(m.files)
	m.files[f] = api.FileLook{Num: f, Kind: api.FileIno, Refs: 1, Readable: readable, Writable: writable, Ino: ino}
	return f, api.OK
}

func (m *plain) pipe() (int, int, api.Errno) {
	if mostFiles-len(m.files) < 2 {
		return 0, 0, api.ErrFileFull
	}
	if len(m.pipes) == mostPipes {
		return 0, 0, api.ErrFilePipe
	}
	p := lowest(m.pipes)
	m.pipes[p] = plainPipe{}
	reader := lowest(m.files)
	m.files[reader] = api.FileLook{Num: reader, Kind: api.FileReader, Refs: 1, Readable: true, Pipe: p}
	writer := lowest(m.files)
	m.files[writer] = api.FileLook{Num: writer, Kind: api.FileWriter, Refs: 1, Writable: true, Pipe: p}
	return reader, writer, api.OK
}

func (m *plain) hold(f int) api.Errno {
	file, ok := m.files[f]
	if !ok {
		return api.ErrFileNone
	}
	file.Refs++
	m.files[f] = file
	return api.OK
}

func (m *plain) drop(f int) ([]api.Chan, api.Errno) {
	file, ok := m.files[f]
	if !ok {
		return nil, api.ErrFileNone
	}
	file.Refs--
	m.files[f] = file
	if file.Refs > 0 {
		return nil, api.OK
	}
	delete(m.files, f)
	if file.Kind == api.FileIno {
		m.x.Drop(file.Ino)
		return nil, api.OK
	}
	if !m.has(api.FileReader, file.Pipe) && !m.has(api.FileWriter, file.Pipe) {
		delete(m.pipes, file.Pipe)
		return nil, api.OK
	}
	if file.Kind == api.FileReader {
		return []api.Chan{{Kind: api.ChanWrite, N: file.Pipe}}, api.OK
	}
	return []api.Chan{{Kind: api.ChanRead, N: file.Pipe}}, api.OK
}

var badGot, badSent = api.FileGot{How: api.FileBad}, api.FileSent{How: api.FileBad}

func (m *plain) read(f, n int) api.FileGot {
	file, ok := m.files[f]
	if !ok || !file.Readable || n < 0 {
		return badGot
	}
	if file.Kind != api.FileIno {
		return m.readPipe(file.Pipe, n)
	}
	switch look := m.x.Look(file.Ino); look.Type {
	case api.TypeFile, api.TypeDir:
		b := m.x.Read(file.Ino, file.Off, n)
		file.Off += len(b)
		m.files[f] = file
		return api.FileGot{How: api.FileDone, Data: b}
	case api.TypeDev:
		if look.Major != 1 {
			return badGot
		}
		if n == 0 {
			return api.FileGot{How: api.FileDone}
		}
		if b, ok := m.c.Take(n); ok {
			return api.FileGot{How: api.FileDone, Data: b}
		}
		return api.FileGot{How: api.FileWait, Chan: api.Chan{Kind: api.ChanConsole}}
	}
	return badGot
}

func (m *plain) readPipe(p, n int) api.FileGot {
	q := m.pipes[p]
	if n > 0 && len(q.in) == 0 && m.has(api.FileWriter, p) {
		return api.FileGot{How: api.FileWait, Chan: api.Chan{Kind: api.ChanRead, N: p}}
	}
	var b []byte
	for len(b) < n && len(q.in) > 0 {
		b, q.in = append(b, q.in[0]), q.in[1:]
		q.reads++
	}
	m.pipes[p] = q
	if b == nil {
		return api.FileGot{How: api.FileDone}
	}
	return api.FileGot{How: api.FileDone, Data: b, Wake: []api.Chan{{Kind: api.ChanWrite, N: p}}}
}

func (m *plain) write(f int, b []byte) api.FileSent {
	file, ok := m.files[f]
	if !ok || !file.Writable {
		return badSent
	}
	if file.Kind != api.FileIno {
		return m.writePipe(file.Pipe, b)
	}
	switch look := m.x.Look(file.Ino); look.Type {
	case api.TypeFile:
		n := m.x.Write(file.Ino, file.Off, b)
		if n == -1 {
			return badSent
		}
		file.Off += n
		m.files[f] = file
		return api.FileSent{How: api.FileDone, N: n}
	case api.TypeDev:
		if look.Major == 1 {
			return api.FileSent{How: api.FileDone, N: len(b), Out: newOrNil(b)}
		}
	}
	return badSent
}

func (m *plain) writePipe(p int, b []byte) api.FileSent {
	if len(b) == 0 {
		return api.FileSent{How: api.FileDone}
	}
	if !m.has(api.FileReader, p) {
		return badSent
	}
	q := m.pipes[p]
	sent := api.FileSent{How: api.FileDone}
	for sent.N < len(b) && len(q.in) < mostBytes {
		q.in = append(q.in, b[sent.N])
		q.writes++
		sent.N++
	}
	m.pipes[p] = q
	if sent.N > 0 {
		sent.Wake = []api.Chan{{Kind: api.ChanRead, N: p}}
	}
	if sent.N < len(b) {
		sent.How, sent.Chan = api.FileWait, api.Chan{Kind: api.ChanWrite, N: p}
	}
	return sent
}

func (m *plain) stat(f int) (api.Stat, api.Errno) {
	file, ok := m.files[f]
	if !ok {
		return api.Stat{}, api.ErrFileNone
	}
	if file.Kind != api.FileIno {
		return api.Stat{}, api.ErrFileKind
	}
	return m.x.Stat(file.Ino), api.OK
}

func (m *plain) look(p int) (api.PipeLook, bool) {
	q, ok := m.pipes[p]
	if !ok {
		return api.PipeLook{}, false
	}
	s := api.PipeState{Bytes: newOrNil(q.in), Reads: uint32(q.reads), Writes: uint32(q.writes)}
	s.Reader, s.Writer = m.has(api.FileReader, p), m.has(api.FileWriter, p)
	return api.PipeLook{Num: p, State: s}, true
}

func newOrNil(b []byte) []byte { return append([]byte(nil), b...) }
