package console

import "hartix/api"

const (
	newline  = 0x0A
	carriage = 0x0D
	rubOut   = "\b \b" // what an echo makes of a byte that is gone: back, a blank over it, back
)

// deed is what a key does.
type deed uint8

const (
	goesIn     deed = iota // it is taken as it is
	isLetGo                // nothing
	erasesByte             // the last byte of the line is gone
	deletesByte
	killsLine     // all bytes of the line are gone
	turnsNewline  // it is taken as a newline
	finishesLine  // it is taken, and the line is finished
	finishesInput // likewise, without an echo
)

// deeds has what each key does, by its byte; those beyond it go in.
var deeds = [...]deed{
	0:             isLetGo,
	api.KeyEnd:    finishesInput,
	api.KeyErase:  erasesByte,
	newline:       finishesLine,
	carriage:      turnsNewline,
	api.KeyKill:   killsLine,
	api.KeyDelete: deletesByte,
}

func deedOf(b byte) deed {
	if int(b) < len(deeds) {
		return deeds[b]
	}
	return goesIn
}

// Type takes a byte; it tells the echo, and whether a line is ready by it (P11.2).
func (c *Console) Type(b byte) (echo []byte, ready bool) {
	if !c.isMade() {
		return nil, false
	}
	switch deedOf(b) {
	case killsLine:
		return c.takeBack(c.held - c.ready), false
	case erasesByte:
		fallthrough
	case deletesByte:
		return c.takeBack(min(1, c.held-c.ready)), false
	case isLetGo:
		return nil, false
	case turnsNewline:
		return c.add(newline)
	}
	return c.add(b)
}

// takeBack lets the last n bytes of the line go; it tells the echo.
func (c *Console) takeBack(n int) (echo []byte) {
	c.held -= n
	for range n {
		echo = append(echo, rubOut...)
	}
	return echo
}

// add puts a byte behind the line, if there is room, and finishes the line if the byte does so, or there is no room any more.
func (c *Console) add(b byte) (echo []byte, ready bool) {
	if c.held == api.LineSize {
		return nil, false
	}
	c.row[c.held] = b
	c.held++
	if finishes(b) || c.held == api.LineSize {
		c.ready, ready = c.held, true
	}
	return echoOf(b), ready
}

func finishes(b byte) bool {
	d := deedOf(b)
	return d == finishesLine || d == finishesInput
}

func echoOf(b byte) []byte {
	if deedOf(b) == finishesInput {
		return nil
	}
	return []byte{b}
}

// canBe tells whether keys can have brought a console into that state.
func canBe(s api.ConsoleState) bool {
	held := len(s.Ready) + len(s.Line)
	if held > api.LineSize || held == api.LineSize && len(s.Line) > 0 {
		return false
	}
	for _, b := range s.Ready {
		if deedOf(b) != goesIn && !finishes(b) {
			return false
		}
	}
	for _, b := range s.Line {
		if deedOf(b) != goesIn {
			return false
		}
	}
	return true
}
