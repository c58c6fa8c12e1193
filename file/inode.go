package file

import (
	"hartix/api"
	"hartix/tree"
)

// content is the bytes of a file or directory, from the offset of an open file on.
type content struct {
	tree *tree.Tree
	file *api.FileLook
}

func (c content) peek(n int) api.FileGot {
	return api.FileGot{How: api.FileDone, Data: c.tree.Read(c.file.Ino, c.file.Off, n)}
}

func (c content) read(n int) api.FileGot {
	told := c.peek(n)
	c.file.Off += len(told.Data)
	return told
}

func (c content) write(b []byte) api.FileSent {
	n := c.tree.Write(c.file.Ino, c.file.Off, b)
	if n < 0 {
		return api.FileSent{How: api.FileBad}
	}
	c.file.Off += n
	return api.FileSent{How: api.FileDone, N: n}
}

// linesBy gives the reading of the console, by its Take or its Peek.
func linesBy(take func(n int) ([]byte, bool)) func(n int) api.FileGot {
	return func(n int) api.FileGot {
		if n == 0 {
			return api.FileGot{How: api.FileDone}
		}
		b, ok := take(n)
		if !ok {
			return api.FileGot{How: api.FileWait, Chan: api.Chan{Kind: api.ChanConsole}}
		}
		return api.FileGot{How: api.FileDone, Data: b}
	}
}

// printed is the writing of the console: its bytes go out in memory of their own.
func printed(b []byte) api.FileSent {
	return api.FileSent{How: api.FileDone, N: len(b), Out: append([]byte(nil), b...)}
}
