package file

import (
	"hartix/api"
	"hartix/pipe"
)

// end is an end of a pipe: whoever must wait there sleeps on its own channel, and what is done there may wake those who sleep on the other end's.
type end struct {
	pipe       *pipe.Pipe
	own, other api.Chan
}

func (s *Files) endOf(file *api.FileLook) end {
	e := end{
		pipe:  s.pipes.get(file.Pipe),
		own:   api.Chan{Kind: api.ChanRead, N: file.Pipe},
		other: api.Chan{Kind: api.ChanWrite, N: file.Pipe},
	}
	if file.Kind == api.FileWriter {
		e.own, e.other = e.other, e.own
	}
	return e
}

func (e end) read(n int) api.FileGot {
	b, how := e.pipe.Take(n)
	if how == api.PipeWait {
		return api.FileGot{How: api.FileWait, Chan: e.own}
	}
	return api.FileGot{How: api.FileDone, Data: b, Wake: e.wakeFor(len(b))}
}

// peek reads from a pipe that is as the end's, so that the end's own stays as it is.
func (e end) peek(n int) api.FileGot {
	e.pipe, _ = pipe.From(e.pipe.State())
	return e.read(n)
}

func (e end) write(b []byte) api.FileSent {
	n, how := e.pipe.Put(b)
	switch how {
	case api.PipeBroken:
		return api.FileSent{How: api.FileBad}
	case api.PipeWait:
		return api.FileSent{How: api.FileWait, N: n, Chan: e.own, Wake: e.wakeFor(n)}
	}
	return api.FileSent{How: api.FileDone, N: n, Wake: e.wakeFor(n)}
}

// wakeFor tells who is to be woken when so many bytes have gone through the end.
func (e end) wakeFor(n int) []api.Chan {
	if n == 0 {
		return nil
	}
	return []api.Chan{e.other}
}
