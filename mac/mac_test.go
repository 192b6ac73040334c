package mac_test

import (
	"math"
	"slices"
	"strings"
	"testing"

	"switchyard/api"
	"switchyard/mac"
	"switchyard/plain"
)

// reads asks that a text is read as an address.
func reads(t *testing.T, s string, want api.Addr) {
	t.Helper()
	if a, err := mac.Parse(s); a != want || err != nil {
		t.Errorf("Parse(%q) = %v, %v, want %v", s, a, err, want)
	}
}

// refuses asks that a text is refused: ErrForm, without a place, and no address.
func refuses(t *testing.T, s string) {
	t.Helper()
	a, err := mac.Parse(s)
	if e, at := plain.Place(err); e != api.ErrForm || at != -1 {
		t.Errorf("Parse(%q): error %d at %d, want ErrForm without a place", s, e, at)
	}
	if a != (api.Addr{}) {
		t.Errorf("Parse(%q) = %v with an error", s, a)
	}
}

// 2.1: Text, and Parse as its inverse.
func TestText(t *testing.T) {
	for _, c := range []struct {
		a    api.Addr
		want string
	}{
		{api.Addr{}, "00:00:00:00:00:00"},
		{api.Addr{0x01, 0x80, 0xc2, 0, 0, 0x0e}, "01:80:c2:00:00:0e"},
		{api.Addr{0x12, 0x34, 0x56, 0x78, 0x9a, 0xbc}, "12:34:56:78:9a:bc"},
		{api.Addr{0xde, 0xf0, 0x0f, 0xa0, 0x90, 0x09}, "de:f0:0f:a0:90:09"},
		{api.Addr{255, 255, 255, 255, 255, 255}, "ff:ff:ff:ff:ff:ff"},
	} {
		if s := mac.Text(c.a); s != c.want {
			t.Errorf("Text(%v) = %q, want %q", c.a, s, c.want)
		}
		reads(t, c.want, c.a)
	}
}

// 2.1: every byte, in every group, is written and read back.
func TestTextOfEveryByte(t *testing.T) {
	for i := range 6 {
		for x := range 256 {
			a := api.Addr{1, 2, 3, 4, 5, 6}
			a[i] = byte(x)
			groups := []string{"01", "02", "03", "04", "05", "06"}
			groups[i] = string([]byte{"0123456789abcdef"[x/16], "0123456789abcdef"[x%16]})
			want := strings.Join(groups, ":")
			if s := mac.Text(a); s != want {
				t.Fatalf("Text(%v) = %q, want %q", a, s, want)
			}
			reads(t, want, a)
		}
	}
}

// 2.1: what is no Text is ErrForm.
func TestParseRefuses(t *testing.T) {
	for _, s := range []string{
		"", ":", "0", "00", "00:00:00:00:00", "00:00:00:00:00:", "00:00:00:00:00:0",
		":00:00:00:00:00:00", "00:00:00:00:00:00:", "00:00:00:00:00:00:00", "00:00:00:00:00:000",
		"000:00:00:00:00:0", "0:000:00:00:00:00", "0:0:0:0:0:0", "00::00:00:00:00:0",
		"000000000000", "00-00-00-00-00-00", "0000:0000:0000:00", "00:00:00-00:00:00",
		"01:80:C2:00:00:0e", "01:80:c2:00:00:0E", "AA:aa:aa:aa:aa:aa",
		"0g:00:00:00:00:00", "00:00:00:00:00:0g", "+1:00:00:00:00:00", "-1:00:00:00:00:00", "0x:00:00:00:00:00", "1_:00:00:00:00:00",
		" 00:00:00:00:00:00", "00:00:00:00:00:00 ", "00:00:00:00:00:00\n", " 0:00:00:00:00:00", "00 00 00 00 00 00",
		"00:00:00:00:00:0\x00", "\xff0:00:00:00:00:00", "00:00:00:00:00:é", "００:00:00:00:00:0",
		strings.Repeat("00:", 10000) + "00",
	} {
		refuses(t, s)
	}
}

// 2.1 and P5: any byte in any place makes another address's Text, or none.
func TestParseOfEveryChange(t *testing.T) {
	a := api.Addr{0x01, 0x80, 0xc2, 0xff, 0x9f, 0x0e}
	text := mac.Text(a)
	for i := range text {
		for c := range 256 {
			b := []byte(text)
			b[i] = byte(c)
			digit := c >= '0' && c <= '9' || c >= 'a' && c <= 'f'
			if i%3 == 2 && c == ':' {
				reads(t, string(b), a)
				continue
			}
			if i%3 == 2 || !digit {
				refuses(t, string(b))
				continue
			}
			got, err := mac.Parse(string(b))
			if err != nil || mac.Text(got) != string(b) {
				t.Errorf("Parse(%q) = %v, %v", b, got, err)
			}
		}
	}
}

// 2.1: the first byte alone, and of it the lowest bit alone, makes a group.
func TestGroup(t *testing.T) {
	for x := range 256 {
		want := x%2 == 1
		for _, rest := range []byte{0, 1, 254, 255} {
			a := api.Addr{byte(x), rest, rest, rest, rest, rest}
			if mac.Group(a) != want {
				t.Errorf("Group(%v) = %v", a, !want)
			}
		}
	}
}

// 2.1: Known is modulo 256, below 0 too.
func TestKnown(t *testing.T) {
	for _, c := range []struct {
		n    int
		last byte
	}{
		{0, 0}, {1, 1}, {14, 14}, {15, 15}, {16, 16}, {33, 33}, {255, 255}, {256, 0}, {257, 1}, {511, 255}, {1<<40 + 7, 7},
		{-1, 255}, {-2, 254}, {-255, 1}, {-256, 0}, {-257, 255}, {math.MaxInt, 255}, {math.MinInt, 0}, {math.MinInt + 1, 1},
	} {
		want := api.Addr{0x01, 0x80, 0xc2, 0x00, 0x00, c.last}
		if a := mac.Known(c.n); a != want {
			t.Errorf("Known(%d) = %v, want %v", c.n, a, want)
		}
	}
}

// 2.1: Reserved is 0 to 15 of sixteen addresses, and -1 of all others.
func TestReserved(t *testing.T) {
	for n := range 256 {
		want := -1
		if n < 16 {
			want = n
		}
		a := mac.Known(n)
		if got := mac.Reserved(a); got != want {
			t.Errorf("Reserved(%s) = %d, want %d", mac.Text(a), got, want)
		}
		for i := range 5 {
			for _, change := range []byte{1, 2, 0x80, 0xff} {
				b := a
				b[i] ^= change
				if got := mac.Reserved(b); got != -1 {
					t.Errorf("Reserved(%s) = %d, want -1", mac.Text(b), got)
				}
			}
		}
	}
	a, err := mac.Parse("01:80:c2:00:00:0e")
	if n := mac.Reserved(a); n != 14 || err != nil {
		t.Errorf("the example is %d, %v, want 14", n, err)
	}
	if n := mac.Reserved(api.Addr{}); n != -1 {
		t.Errorf("Reserved of zeros = %d", n)
	}
}

// 2.1: the first byte that differs decides, as a number from 0 to 255.
func TestLess(t *testing.T) {
	rising := []api.Addr{
		{},
		{0, 0, 0, 0, 0, 1},
		{0, 0, 0, 0, 0, 0x7f},
		{0, 0, 0, 0, 0, 0x80},
		{0, 0, 0, 0, 0, 255},
		{0, 0, 0, 0, 1, 0},
		{0, 0, 0, 1, 0, 255},
		{0, 0, 1, 255, 0, 0},
		{0, 1, 0, 0, 0, 0},
		{0, 255, 255, 255, 255, 255},
		{1, 0, 0, 0, 0, 0},
		{1, 0x80, 0xc2, 0, 0, 0x0e},
		{0x7f, 255, 0, 0, 0, 0},
		{0x80, 0, 0, 0, 0, 0},
		{255, 0, 0, 0, 0, 0},
		{255, 255, 255, 255, 255, 255},
	}
	for i, a := range rising {
		for j, b := range rising {
			if got := mac.Less(a, b); got != (i < j) {
				t.Errorf("Less(%s, %s) = %v", mac.Text(a), mac.Text(b), got)
			}
		}
	}
}

// 2.1: addresses are ordered as their texts are.
func TestLessAsTexts(t *testing.T) {
	var l []api.Addr
	for n := range 200 {
		l = append(l, api.Addr{byte(n * 77), byte(n % 3), byte(n * 13), byte(n % 2), byte(n * 201), byte(n)})
	}
	slices.SortFunc(l, func(a, b api.Addr) int {
		if mac.Less(a, b) {
			return -1
		}
		return 1
	})
	if !slices.IsSortedFunc(l, func(a, b api.Addr) int { return strings.Compare(mac.Text(a), mac.Text(b)) }) {
		t.Error("sorted by Less, they are not sorted by Text")
	}
}
