package crc_test

import (
	"hash/crc32"
	"strings"
	"testing"

	"switchyard/api"
	"switchyard/crc"
	"switchyard/plain"
)

// texts are some to be sealed: all bytes, short and long ones, and such as are near to a sum.
func texts() []string {
	l := []string{"", "\x00", "\x01", "\x80", "\xff", "a", "123456789", "\x00\x00\x00\x00", "\xff\xff\xff\xff", strings.Repeat("\x00", 60), strings.Repeat("\xff", 2000)}
	var all []byte
	for c := range 256 {
		all = append(all, byte(c))
		l = append(l, string(all[c:]), string(all))
	}
	return l
}

// opens asks for the text of a sealed one.
func opens(t *testing.T, s, want string) {
	t.Helper()
	if got, err := crc.Open(s); got != want || err != nil {
		t.Errorf("Open(%x) = %x, %v, want %x", s, got, err, want)
	}
}

// refuses asks for an error without a place, and no text with it.
func refuses(t *testing.T, s string, want api.Errno) {
	t.Helper()
	got, err := crc.Open(s)
	if e, at := plain.Place(err); e != want || at != -1 || got != "" {
		t.Errorf("Open(%x) = %x, error %d at %d, want error %d without a place", s, got, e, at, want)
	}
}

// 4.1: known sums.
func TestSum(t *testing.T) {
	for _, c := range []struct {
		s    string
		want uint32
	}{
		{"123456789", 0xcbf43926},
		{"", 0},
		{"\x00", 0xd202ef8d},
		{"\xff", 0xff000000},
		{"a", 0xe8b7be43},
		{"abc", 0x352441c2},
		{"\x00\x00\x00\x00", 0x2144df1c},
		{"\xff\xff\xff\xff", 0xffffffff},
		{"The quick brown fox jumps over the lazy dog", 0x414fa339},
	} {
		if got := crc.Sum(c.s); got != c.want {
			t.Errorf("Sum(%q) = %08x, want %08x", c.s, got, c.want)
		}
	}
}

// 4.1: the sum is the one that Go's library has, too.
func TestSumOfMany(t *testing.T) {
	for _, s := range texts() {
		if got, want := crc.Sum(s), crc32.ChecksumIEEE([]byte(s)); got != want {
			t.Errorf("Sum(%x) = %08x, want %08x", s, got, want)
		}
	}
}

// 4.1: the sum stands behind the text, its least byte first.
func TestSeal(t *testing.T) {
	for _, c := range []struct{ s, want string }{
		{"123456789", "123456789\x26\x39\xf4\xcb"},
		{"", "\x00\x00\x00\x00"},
		{"\x00", "\x00\x8d\xef\x02\xd2"},
		{"\xff", "\xff\x00\x00\x00\xff"},
	} {
		if got := crc.Seal(c.s); got != c.want {
			t.Errorf("Seal(%q) = %x, want %x", c.s, got, c.want)
		}
	}
}

// 4.1: what is sealed is opened, also more than once.
func TestOpen(t *testing.T) {
	opens(t, "123456789\x26\x39\xf4\xcb", "123456789")
	opens(t, "\x00\x00\x00\x00", "")
	for _, s := range texts() {
		once := crc.Seal(s)
		opens(t, once, s)
		opens(t, crc.Seal(once), once)
	}
}

// 4.1: below four bytes there is no sum, whatever they are.
func TestOpenMissing(t *testing.T) {
	for _, s := range []string{"", "\x00", "\x00\x00", "\x00\x00\x00", "\xff\xff\xff", "abc"} {
		refuses(t, s, api.ErrMissing)
	}
}

// 4.1: another sum, also the right one in another order of its bytes, is no seal.
func TestOpenSpoilt(t *testing.T) {
	for _, s := range []string{
		"\x00\x00\x00\x01", "\x01\x00\x00\x00", "\xff\xff\xff\xff", "abcd",
		"123456789\xcb\xf4\x39\x26", "123456789\xd9\xc6\x0b\x34", "123456789", "123456789\x26\x39\xf4",
		"\x26\x39\xf4\xcb123456789", "123456789\x26\x39\xf4\xcb\x00", "\x00123456789\x26\x39\xf4\xcb",
	} {
		refuses(t, s, api.ErrSpoilt)
	}
}

// flip changes the bits of a text that a pattern has, from one bit on; the lowest bit of a byte comes first.
func flip(s string, from int, pattern uint32) string {
	b := []byte(s)
	for i := range 32 {
		if pattern>>i&1 == 1 {
			b[(from+i)/8] ^= 1 << ((from + i) % 8)
		}
	}
	return string(b)
}

// 4.1, and property 4: a change within 32 bits is detected, wherever it is.
func TestOpenChanged(t *testing.T) {
	patterns := []uint32{1, 3, 0xff, 0x101, 0x8001, 0xedb88320, 0xdb710641, 0x04c11db7, 0x80000001, 0xaaaaaaaa, 0x55555555, 0xffffffff}
	for i := range 32 {
		patterns = append(patterns, 1<<i, 1<<i|1, ^uint32(1<<i))
	}
	for _, s := range []string{"", "\x00", "123456789", strings.Repeat("\x00", 60), strings.Repeat("frame", 12)} {
		sealed := crc.Seal(s)
		for from := range 8*len(sealed) - 31 {
			for _, p := range patterns {
				refuses(t, flip(sealed, from, p), api.ErrSpoilt)
			}
		}
	}
}

// P4: a result depends on the text alone.
func TestAgain(t *testing.T) {
	for range 3 {
		opens(t, crc.Seal("123456789"), "123456789")
		refuses(t, "abc", api.ErrMissing)
		if crc.Sum("123456789") != 0xcbf43926 {
			t.Error("Sum: another one")
		}
	}
}
