package tlv_test

import (
	"encoding/hex"
	"math"
	"math/rand"
	"slices"
	"strings"
	"testing"

	"switchyard/api"
	"switchyard/plain"
	"switchyard/tlv"
)

// bytesOf are those that digits tell; blanks are for the reader.
func bytesOf(digits string) string {
	b, err := hex.DecodeString(strings.ReplaceAll(digits, " ", ""))
	if err != nil {
		panic(digits)
	}
	return string(b)
}

// sample is records, their bytes, where each one begins, and where the end mark does.
type sample struct {
	l      []api.Tlv
	digits string
	starts []int
	end    int
}

// samples are lists of records; the first one is the example.
func samples() []sample {
	return []sample{
		{nil, "0000", nil, 0},
		{[]api.Tlv{{Type: 1}}, "0200 0000", []int{0}, 2},
		{[]api.Tlv{{Type: 1, Text: "\x00"}}, "0201 00 0000", []int{0}, 3},
		{[]api.Tlv{{Type: 127}}, "fe00 0000", []int{0}, 2},
		{[]api.Tlv{{Type: 2, Text: "abc"}}, "0403 616263 0000", []int{0}, 5},
		{[]api.Tlv{{Type: 9, Text: "a"}, {Type: 9}, {Type: 3, Text: "\x00\x00"}, {Type: 9, Text: "a"}}, "1201 61 1200 0602 0000 1201 61 0000", []int{0, 3, 5, 9}, 12},
		{[]api.Tlv{{Type: 127, Text: strings.Repeat("t", 511)}, {Type: 5}}, "ffff" + strings.Repeat("74", 511) + "0a00 0000", []int{0, 513}, 515},
		{[]api.Tlv{{Type: 1, Text: strings.Repeat("\x00", 255)}, {Type: 64, Text: strings.Repeat("\xff", 256)}}, "02ff" + strings.Repeat("00", 255) + "8100" + strings.Repeat("ff", 256) + "0000", []int{0, 257}, 515},
	}
}

// reads asks Read for records, where each one begins, and where the end does.
func reads(t *testing.T, s string, l []api.Tlv, starts []int, end int) {
	t.Helper()
	got, at, last, err := tlv.Read(s)
	if !slices.Equal(got, l) || !slices.Equal(at, starts) || last != end || err != nil {
		t.Errorf("Read(%x) = %v, %d, %d, %v, want %v, %d, %d", s, got, at, last, err, l, starts, end)
	}
}

// refuses asks Read for an error with its place, and for nothing with it.
func refuses(t *testing.T, s string, want api.Errno, place int) {
	t.Helper()
	l, starts, end, err := tlv.Read(s)
	if e, at := plain.Place(err); e != want || at != place {
		t.Errorf("Read(%x): error %d at %d, want %d at %d", s, e, at, want, place)
	}
	if len(l) != 0 || len(starts) != 0 || end != 0 {
		t.Errorf("Read(%x) = %v, %d, %d with an error", s, l, starts, end)
	}
}

// refusesToWrite asks Write for ErrArg, with which record it is of, and for no bytes with it.
func refusesToWrite(t *testing.T, l []api.Tlv, place int) {
	t.Helper()
	s, err := tlv.Write(l)
	if e, at := plain.Place(err); e != api.ErrArg || at != place || s != "" {
		t.Errorf("Write(%.200v) = %.20x, error %d at %d, want %d at %d", l, s, e, at, api.ErrArg, place)
	}
}

// 13.1: which types may be, and which lengths; Write refuses all others.
func TestRight(t *testing.T) {
	types := []int{math.MinInt, -1 << 32, -128, -127, -1, 0, 1, 2, 63, 64, 126, 127, 128, 129, 255, 256, 1 << 32, 1<<32 + 1, math.MaxInt}
	for _, kind := range types {
		for _, n := range []int{0, 1, 2, 255, 256, 510, 511, 512, 513, 1023, 1024, 70000} {
			x := api.Tlv{Type: kind, Text: strings.Repeat("x", n)}
			want := kind >= 1 && kind <= 127 && n <= 511
			if got := tlv.Right(x); got != want {
				t.Errorf("Right of type %d with %d bytes: %v", kind, n, got)
			}
			if !want {
				refusesToWrite(t, []api.Tlv{x}, 0)
			}
		}
	}
}

// 13.1 and property 1: the bytes of records, in both directions.
func TestSamples(t *testing.T) {
	for _, x := range samples() {
		s := bytesOf(x.digits)
		if got, err := tlv.Write(x.l); got != s || err != nil {
			t.Errorf("Write(%v) = %x, %v, want %x", x.l, got, err, s)
		}
		reads(t, s, x.l, x.starts, x.end)
	}
	if s, err := tlv.Write([]api.Tlv{}); s != "\x00\x00" || err != nil {
		t.Errorf("Write of an empty list = %x, %v", s, err)
	}
}

// 13.1 and property 1: every type with every length.
func TestEveryHead(t *testing.T) {
	text := strings.Repeat("text and\x00", 57)
	for kind := 1; kind <= 127; kind++ {
		for n := range 512 {
			l := []api.Tlv{{Type: kind, Text: text[:n]}}
			want := string([]byte{byte(2*kind + n>>8), byte(n)}) + text[:n] + "\x00\x00"
			if s, err := tlv.Write(l); s != want || err != nil {
				t.Fatalf("Write(%v) = %x, %v, want %x", l, s, err, want)
			}
			reads(t, want, l, []int{0}, 2+n)
		}
	}
}

// 13.1: ErrArg has the index of the first record that may not be.
func TestWriteFirst(t *testing.T) {
	good := api.Tlv{Type: 5, Text: "good"}
	for _, bad := range []api.Tlv{{}, {Text: "x"}, {Type: -1}, {Type: 128}, {Type: 1, Text: strings.Repeat("x", 512)}} {
		for at := range 4 {
			l := slices.Repeat([]api.Tlv{good}, at)
			refusesToWrite(t, append(l, bad), at)
			refusesToWrite(t, append(l, bad, good), at)
			refusesToWrite(t, append(l, bad, api.Tlv{Type: 200}, good, bad), at)
		}
	}
}

// missing is where what is missing of a sample begins, if it is cut there: a Text, or the two bytes of a header.
func missing(x sample, cut int) int {
	at := 0
	for i, start := range x.starts {
		if start <= cut {
			at = start
		}
		// An empty Text is never missing.
		if start+2 <= cut && x.l[i].Text != "" {
			at = start + 2
		}
	}
	if x.end <= cut {
		at = x.end
	}
	return at
}

// 13.1 and P3: what is missing is told at its first byte, that of a header or of a Text.
func TestEveryCut(t *testing.T) {
	for _, x := range samples() {
		s := bytesOf(x.digits)
		for n := range len(s) {
			refuses(t, s[:n], api.ErrMissing, missing(x, n))
		}
	}
	for _, c := range []struct {
		digits string
		place  int
	}{
		{"", 0}, {"00", 0}, {"02", 0}, {"ff", 0},
		{"0200", 2}, {"0201", 2}, {"0202 61", 2}, {"ffff", 2}, {"0200 00", 2}, {"0200 ff", 2},
		{"0201 61", 3}, {"0201 61 00", 3}, {"0201 61 0402 62", 5},
	} {
		refuses(t, bytesOf(c.digits), api.ErrMissing, c.place)
	}
}

// 13.1: Type 0 has no Text: its header is refused, wherever it stands, whatever follows, the Text there or not.
func TestEndHasNoText(t *testing.T) {
	for n := 1; n < 512; n++ {
		head := string([]byte{byte(n >> 8), byte(n)})
		for _, ahead := range []string{"", "\x02\x00", "\x02\x01a", "\x02\x01a\x04\x00"} {
			for _, behind := range []string{"", "\x00", "\x00\x00", "\x01", strings.Repeat("\x00", n), strings.Repeat("x", n) + "\x00\x00"} {
				refuses(t, ahead+head+behind, api.ErrForm, len(ahead))
			}
		}
	}
}

// 13.1: behind the end mark there are only zeros, as many as there may be; any other byte is told at its position.
func TestBehindEnd(t *testing.T) {
	for _, x := range samples() {
		s := bytesOf(x.digits)
		for _, n := range []int{1, 2, 3, 46, 3000} {
			zeros := strings.Repeat("\x00", n)
			reads(t, s+zeros, x.l, x.starts, x.end)
			for _, more := range []string{"\x01", "\x80", "\xff", "\x02\x00\x00\x00", "\x01\x02"} {
				refuses(t, s+more, api.ErrSpoilt, len(s))
				refuses(t, s+zeros+more, api.ErrSpoilt, len(s)+n)
				refuses(t, s+zeros+more+zeros, api.ErrSpoilt, len(s)+n)
			}
		}
	}
	for c := 1; c < 256; c++ {
		refuses(t, string([]byte{0, 0, byte(c)}), api.ErrSpoilt, 2)
		refuses(t, string([]byte{0, 0, 0, byte(c), 1}), api.ErrSpoilt, 3)
	}
}

// told is what the document asks of bytes, read in another way: by what stands at each place.
func told(s string) (l []api.Tlv, starts []int, end int, e api.Errno, place int) {
	at := 0
	for {
		if at+2 > len(s) {
			return nil, nil, 0, api.ErrMissing, at
		}
		kind, size := int(s[at])/2, int(s[at])%2*256+int(s[at+1])
		switch {
		case kind == 0 && size > 0:
			return nil, nil, 0, api.ErrForm, at
		case kind == 0:
			for i := at + 2; i < len(s); i++ {
				if s[i] != 0 {
					return nil, nil, 0, api.ErrSpoilt, i
				}
			}
			return l, starts, at, api.OK, -1
		case at+2+size > len(s):
			return nil, nil, 0, api.ErrMissing, at + 2
		}
		l, starts = append(l, api.Tlv{Type: kind, Text: s[at+2 : at+2+size]}), append(starts, at)
		at += 2 + size
	}
}

// agrees asks Read for what told tells; what is read is valid, and is written in the same way again, up to the zeros at the end.
func agrees(t *testing.T, s string) {
	t.Helper()
	l, starts, end, e, place := told(s)
	if e != api.OK {
		refuses(t, s, e, place)
		return
	}
	reads(t, s, l, starts, end)
	got, _, _, _ := tlv.Read(s)
	again, err := tlv.Write(got)
	if err != nil || again != s[:end+2] || slices.ContainsFunc(got, func(x api.Tlv) bool { return !tlv.Right(x) }) {
		t.Errorf("Read(%x) = %v, which is written as %x, %v", s, got, again, err)
	}
}

// 13.1 and property 1: all short texts, and every byte of samples in every other's place.
func TestEveryText(t *testing.T) {
	for a := range 256 {
		for b := range 256 {
			agrees(t, string([]byte{byte(a), byte(b)}))
			agrees(t, string([]byte{byte(a), byte(b), 0, 0}))
			agrees(t, string([]byte{0x02, 0x01, byte(a), byte(b), 0, 0}))
		}
	}
	for _, x := range samples()[:6] {
		for i := range len(bytesOf(x.digits)) {
			for c := range 256 {
				b := []byte(bytesOf(x.digits))
				b[i] = byte(c)
				agrees(t, string(b))
			}
		}
	}
}

// 13.1 and property 1: texts that are drawn, most of them with a few records, the end mark, and something behind it.
func TestDrawn(t *testing.T) {
	source := rand.New(rand.NewSource(13))
	drawn := func(most int) string {
		b := make([]byte, source.Intn(most+1))
		for i := range b {
			b[i] = []byte{0, 0, 0, 1, 2, byte(source.Intn(256))}[source.Intn(6)]
		}
		return string(b)
	}
	for range 50000 {
		agrees(t, drawn(12))
		var l []api.Tlv
		for range source.Intn(5) {
			l = append(l, api.Tlv{Type: 1 + source.Intn(127), Text: drawn(7)})
		}
		s, err := tlv.Write(l)
		if err != nil {
			t.Fatalf("Write(%v): %v", l, err)
		}
		agrees(t, s+drawn(3))
		agrees(t, s[:source.Intn(len(s)+1)])
	}
}

// P4: a list is not changed, nor the memory behind it, and the lists that are read are memory of their own.
func TestArgsStay(t *testing.T) {
	room := []api.Tlv{{Type: 1, Text: "a"}, {Type: 2, Text: "b"}, {Type: 128, Text: "c"}, {Type: -1, Text: "d"}}
	before := slices.Clone(room)
	for n := range len(room) + 1 {
		tlv.Write(room[:n])
		if !slices.Equal(room, before) {
			t.Errorf("%v: changed to %v", before, room)
		}
	}
	s := bytesOf("0201 61 0401 62 0000")
	l, starts, _, _ := tlv.Read(s)
	for i := range l {
		l[i], starts[i] = api.Tlv{Type: 9, Text: "z"}, 99
	}
	_, _ = append(l, api.Tlv{Type: 9}), append(starts, 99)
	reads(t, s, []api.Tlv{{Type: 1, Text: "a"}, {Type: 2, Text: "b"}}, []int{0, 3}, 6)
}
