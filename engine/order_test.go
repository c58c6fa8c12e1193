package engine_test

// P18.1: of several reasons the first holds.

import (
	"strings"
	"testing"

	"hartix/api"
)

// full is a text with as much of all as there may be.
func full() string {
	return settings + strings.Repeat("dir /d\n", 64) + "every 0 1 4096\n" + strings.Repeat("input 1 x\n", 4096)
}

func TestOrderWithinALine(t *testing.T) {
	line := strings.Count(full(), "\n") + 1
	for _, c := range []struct {
		text string
		want api.Errno
	}{
		// A quoted word that is none is ahead of all.
		{"none of these \"", api.ErrEngineWord},
		{"\"frames\" \"", api.ErrEngineWord},
		{"frames \"", api.ErrEngineWord},
		{"dir \"", api.ErrEngineWord},
		{"dir /d /e \"", api.ErrEngineWord},
		{"bytes \"", api.ErrEngineWord},
		// A line that is none is ahead of numbers.
		{"frames x y", api.ErrEngineLine},
		{"dev /c x", api.ErrEngineLine},
		{"dev /c x y z", api.ErrEngineLine},
		{"every x y", api.ErrEngineLine},
		{"tick", api.ErrEngineLine},
		{"input x", api.ErrEngineLine},
		{"budget", api.ErrEngineLine},
		{"init", api.ErrEngineLine},
		{"bytes", api.ErrEngineLine},
		{"asm /f /g", api.ErrEngineLine},
		// Numbers are ahead of what stands there already, and of what is too much.
		{"frames x", api.ErrEngineWord},
		{"budget -1", api.ErrEngineWord},
		{"dev /c 0 x", api.ErrEngineWord},
		{"tick 1 2 x", api.ErrEngineWord},
		{"every 1 1 x", api.ErrEngineWord},
		{"every 2147483647 1 2147483647", api.ErrEngineWord},
		{"input x y", api.ErrEngineWord},
		{"frames 1", api.ErrEngineTwice},
		{"budget 1", api.ErrEngineTwice},
		{"init x", api.ErrEngineTwice},
		{"dir /d", api.ErrEngineMany},
		{"dev /c 0 0", api.ErrEngineMany},
		{"text /f x", api.ErrEngineMany},
		{"tick 1", api.ErrEngineMany},
		{"every 1 1 1", api.ErrEngineMany},
		{"input 1 x", api.ErrEngineMany},
		// And that ahead of a block.
		{"bytes /f", api.ErrEngineMany},
		{"bytes /f\nx\nend", api.ErrEngineMany},
		{"asm /f", api.ErrEngineMany},
		{"asm /f\nx\nend", api.ErrEngineMany},
	} {
		asks(t, full()+c.text, line, c.want)
		asks(t, full()+c.text+"\n\"\nno line", line, c.want)
	}
	for _, text := range []string{"every 1 1 0", "", "# \"", "every 2147483647 9 0"} {
		if _, err := checkParse(t, full()+text); err != nil {
			t.Errorf("%q: %v", text, err)
		}
	}
}

// Lines are looked at one behind the other: an earlier one's reason holds, whatever is behind it.
func TestOrderOfLines(t *testing.T) {
	wrong := []struct {
		text string
		want api.Errno
	}{
		{"frames \"", api.ErrEngineWord}, {"none", api.ErrEngineLine}, {"tick x", api.ErrEngineWord}, {"frames 1\nframes 2", api.ErrEngineTwice}, {"every 0 0 4097", api.ErrEngineMany},
		{"bytes /f\n0\nend", api.ErrEngineWord}, {"bytes /f\n", api.ErrEngineEnd}, {"asm /f\nx\n", api.ErrEngineEnd},
	}
	at := []int{1, 1, 1, 2, 1, 2, 1, 1}
	for k, a := range wrong {
		for _, b := range wrong {
			if a.want == api.ErrEngineEnd {
				continue // what is behind it is the block's
			}
			asks(t, "\n"+a.text+"\n"+b.text, 1+at[k], a.want)
		}
		// Ahead of the settings that are missing.
		asks(t, a.text, at[k], a.want)
	}
	// The length is ahead of all lines.
	asks(t, strings.Repeat("none\n", 300000), 0, api.ErrEngineLong)
}
