package file

import "hartix/api"

// ways is how an open file is read and written, by what it is; nil: that can't be done.
type ways struct {
	read  func(n int) api.FileGot
	peek  func(n int) api.FileGot // tells what read would, and changes nothing
	write func(b []byte) api.FileSent
}

// Read reads (P12.5).
func (s *Files) Read(f, n int) api.FileGot { return readBy(s.waysOf(f).read, n) }

// Peek tells what Read would, and does nothing (P12.5).
func (s *Files) Peek(f, n int) api.FileGot { return readBy(s.waysOf(f).peek, n) }

func readBy(read func(n int) api.FileGot, n int) api.FileGot {
	if read == nil || n < 0 {
		return api.FileGot{How: api.FileBad}
	}
	return read(n)
}

// Write writes (P12.6).
func (s *Files) Write(f int, b []byte) api.FileSent {
	write := s.waysOf(f).write
	if write == nil {
		return api.FileSent{How: api.FileBad}
	}
	return write(b)
}

// waysOf gives the ways that may be gone with what is open at a number.
func (s *Files) waysOf(f int) ways {
	file, errno := s.get(f)
	if errno != api.OK {
		return ways{}
	}
	w := s.waysOfKind(file)
	if !file.Readable {
		w.read, w.peek = nil, nil
	}
	if !file.Writable {
		w.write = nil
	}
	return w
}

func (s *Files) waysOfKind(file *api.FileLook) ways {
	if file.Kind != api.FileIno {
		e := s.endOf(file)
		return ways{e.read, e.peek, e.write}
	}
	switch look := s.tree.Look(file.Ino); {
	case look.Type == api.TypeFile || look.Type == api.TypeDir:
		c := content{s.tree, file}
		return ways{c.read, c.peek, c.write}
	case look.Type == api.TypeDev && look.Major == api.ConsoleDev:
		return ways{linesBy(s.console.Take), linesBy(s.console.Peek), printed}
	}
	return ways{}
}
