package tree_test

// P9.1, and W10 of entries.

import (
	"bytes"
	"math"
	"strings"
	"testing"

	"hartix/api"
	"hartix/tree"
)

func TestPack(t *testing.T) {
	for _, ino := range []int{0, 1, 199, 255, 256, 258, 65535, 65536, 65537, 1 << 32, 1<<40 + 0x1234, -1, -2, -65536, math.MaxInt, math.MinInt} {
		for _, name := range []string{"", "a", ".", "..", "thirteen byte", "fourteen bytes", "fifteen bytes!!", strings.Repeat("x", 5000), "a\x00b", "\x00", "\x00behind", "\xff\xfe\x80", "äöüäöüäöü", "a/b", "thirteen byte\x00more"} {
			got := tree.Pack(api.Dirent{Ino: ino, Name: name})
			if want := packed(slot{ino, name}); !bytes.Equal(got, want) {
				t.Errorf("Pack(%d, %q) = % x, want % x", ino, name, got, want)
			}
		}
	}
}

func TestPackByHand(t *testing.T) {
	for _, c := range []struct {
		e    api.Dirent
		want string
	}{
		{api.Dirent{}, "\x00\x00" + strings.Repeat("\x00", 14)},
		{api.Dirent{Ino: 1, Name: "."}, "\x01\x00." + strings.Repeat("\x00", 13)},
		{api.Dirent{Ino: 0x1234, Name: "abcdefghijklmn"}, "\x34\x12abcdefghijklmn"},
		{api.Dirent{Ino: 0x51234, Name: "abcdefghijklmno"}, "\x34\x12abcdefghijklmn"},
		{api.Dirent{Ino: -2, Name: "ab\x00c"}, "\xfe\xffab\x00c" + strings.Repeat("\x00", 10)},
	} {
		if got := tree.Pack(c.e); string(got) != c.want {
			t.Errorf("Pack(%v) = % x, want % x", c.e, got, c.want)
		}
	}
}

func TestUnpack(t *testing.T) {
	for _, c := range []struct {
		b    string
		want api.Dirent
	}{
		{strings.Repeat("\x00", 16), api.Dirent{}},
		{"\x00\x00abcdefghijklmn", api.Dirent{Name: "abcdefghijklmn"}},
		{"\x02\x01ab" + strings.Repeat("\x00", 12), api.Dirent{Ino: 258, Name: "ab"}},
		{"\xff\xffab\x00cdefghijklm", api.Dirent{Ino: 65535, Name: "ab"}},
		{"\x01\x80\x00bcdefghijklmn", api.Dirent{Ino: 32769}},
		{"\x01\x00abcdefghijklm\x00", api.Dirent{Ino: 1, Name: "abcdefghijklm"}},
		{"\x01\x00" + strings.Repeat("\xff", 14), api.Dirent{Ino: 1, Name: strings.Repeat("\xff", 14)}},
	} {
		if got, ok := tree.Unpack([]byte(c.b)); got != c.want || !ok {
			t.Errorf("Unpack(% x) = %v, %v, want %v", c.b, got, ok, c.want)
		}
	}
}

func TestUnpackOfOtherLengths(t *testing.T) {
	if got, ok := tree.Unpack(nil); got != (api.Dirent{}) || ok {
		t.Errorf("Unpack(nil) = %v, %v", got, ok)
	}
	room := bytes.Repeat([]byte("ab"), 2048)
	for n := range 64 {
		got, ok := tree.Unpack(room[:n])
		if ok != (n == 16) || !ok && got != (api.Dirent{}) {
			t.Errorf("Unpack of %d bytes = %v, %v", n, got, ok)
		}
	}
	if got, ok := tree.Unpack(room); got != (api.Dirent{}) || ok {
		t.Errorf("Unpack of %d bytes = %v, %v", len(room), got, ok)
	}
}

func TestUnpackOfPack(t *testing.T) {
	s := scatter(7)
	for range 4000 {
		name := make([]byte, s.below(15))
		for k := range name {
			name[k] = byte(1 + s.below(255))
		}
		e := api.Dirent{Ino: s.below(65536), Name: string(name)}
		if got, ok := tree.Unpack(tree.Pack(e)); got != e || !ok {
			t.Fatalf("%v is read back as %v, %v", e, got, ok)
		}
	}
}
