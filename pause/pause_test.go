package pause_test

import (
	"encoding/hex"
	"math"
	"strings"
	"testing"

	"switchyard/api"
	"switchyard/pause"
	"switchyard/plain"
)

// none is the place of an error that has none.
const none = -1

// rest are the times of the classes from 1 on.
const rest = "0002 0003 0004 0005 0006 0007 ffff"

// bytesOf are those that digits tell; blanks are for the reader.
func bytesOf(digits string) string {
	b, err := hex.DecodeString(strings.ReplaceAll(digits, " ", ""))
	if err != nil {
		panic(digits)
	}
	return string(b)
}

// forAll asks for silence of all.
func forAll(time int) api.Pause { return api.Pause{Times: [8]int{time}} }

// byClass asks for silence by class, with the times of rest.
func byClass(enable, first int) api.Pause {
	return api.Pause{Pfc: true, Enable: enable, Times: [8]int{first, 2, 3, 4, 5, 6, 7, 65535}}
}

// samples are messages, and their bytes.
var samples = []struct {
	p      api.Pause
	digits string
}{
	{api.Pause{}, "0001 0000"},
	{forAll(1), "0001 0001"},
	{forAll(258), "0001 0102"},
	{forAll(0x8000), "0001 8000"},
	{forAll(65535), "0001 ffff"},
	{api.Pause{Pfc: true}, "0101 0000 0000 0000 0000 0000 0000 0000 0000 0000"},
	{api.Pause{Pfc: true, Enable: 255}, "0101 00ff 0000 0000 0000 0000 0000 0000 0000 0000"},
	{api.Pause{Pfc: true, Times: [8]int{0, 0, 0, 0, 0, 0, 0, 1}}, "0101 0000 0000 0000 0000 0000 0000 0000 0000 0001"},
	{byClass(0, 1), "0101 0000 0001" + rest},
	{byClass(0x81, 258), "0101 0081 0102" + rest},
	{byClass(255, 65535), "0101 00ff ffff" + rest},
}

// wrong are messages that may not be.
func wrong() []api.Pause {
	var l []api.Pause
	for _, x := range []int{math.MinInt, -65536, -1, 65536, 65537, 1 << 32, math.MaxInt} {
		l = append(l, forAll(x))
		for i := range 8 {
			p := byClass(255, 1)
			p.Times[i] = x
			l = append(l, p)
			// A class that is not asked for has a time nevertheless.
			p.Enable = 0
			l = append(l, p)
		}
	}
	for _, x := range []int{math.MinInt, -256, -1, 256, 257, 511, 65535, 1 << 32, math.MaxInt} {
		l = append(l, byClass(x, 1), api.Pause{Pfc: true, Enable: x})
	}
	// Unless Pfc is set, nothing but the first time is.
	for _, x := range []int{math.MinInt, -1, 1, 2, 255, 256, 65535, math.MaxInt} {
		l = append(l, api.Pause{Enable: x}, api.Pause{Enable: x, Times: [8]int{9}})
		for i := 1; i < 8; i++ {
			p := forAll(9)
			p.Times[i] = x
			l = append(l, p)
		}
	}
	return l
}

// reads asks Read for a message.
func reads(t *testing.T, s string, want api.Pause) {
	t.Helper()
	if p, err := pause.Read(s); p != want || err != nil {
		t.Errorf("Read(%x) = %v, %v, want %v", s, p, err, want)
	}
}

// refuses asks Read for an error with its place, and for no message with it.
func refuses(t *testing.T, s string, want api.Errno, place int) {
	t.Helper()
	p, err := pause.Read(s)
	if e, at := plain.Place(err); e != want || at != place {
		t.Errorf("Read(%x): error %d at %d, want %d at %d", s, e, at, want, place)
	}
	if p != (api.Pause{}) {
		t.Errorf("Read(%x) = %v with an error", s, p)
	}
}

// 7.1: messages that may be.
func TestRight(t *testing.T) {
	for _, x := range samples {
		if !pause.Right(x.p) {
			t.Errorf("Right(%v) = false", x.p)
		}
	}
	for x := range 256 {
		if !pause.Right(byClass(x, 9)) {
			t.Errorf("Right of Enable %d = false", x)
		}
	}
}

// 7.1: messages that may not be, which Write refuses without a place.
func TestWrong(t *testing.T) {
	for _, p := range wrong() {
		if pause.Right(p) {
			t.Errorf("Right(%v) = true", p)
		}
		s, err := pause.Write(p)
		if e, at := plain.Place(err); e != api.ErrArg || at != none || s != "" {
			t.Errorf("Write(%v) = %x, error %d at %d, want ErrArg without a place", p, s, e, at)
		}
	}
}

// 7.1: the bytes of messages, in both directions.
func TestSamples(t *testing.T) {
	for _, x := range samples {
		want := bytesOf(x.digits)
		if s, err := pause.Write(x.p); s != want || err != nil {
			t.Errorf("Write(%v) = %x, %v, want %x", x.p, s, err, want)
		}
		reads(t, want, x.p)
	}
}

// 7.1: behind a message there may be zeros, however many; they are no times of one for all.
func TestReadPadded(t *testing.T) {
	for _, x := range samples {
		for _, n := range []int{1, 2, 16, 42, 10000} {
			reads(t, bytesOf(x.digits)+strings.Repeat("\x00", n), x.p)
		}
	}
}

// 7.1: each error, and its place; the first one in the order of reading is told.
func TestReadErrors(t *testing.T) {
	for _, c := range []struct {
		digits string
		want   api.Errno
		place  int
	}{
		// The first number.
		{"", api.ErrMissing, 0},
		{"00", api.ErrMissing, 0},
		{"ff", api.ErrMissing, 0},
		{"0000", api.ErrForm, 0},
		{"0002 0001", api.ErrForm, 0},
		{"0100 0001", api.ErrForm, 0},
		{"0102 ffff", api.ErrForm, 0},
		{"0201 0001 0001" + rest, api.ErrForm, 0},
		{"ffff", api.ErrForm, 0},
		// For all.
		{"0001", api.ErrMissing, 2},
		{"0001 ff", api.ErrMissing, 2},
		{"0001 ffff 01", api.ErrSpoilt, 4},
		{"0001 0000 00 00 80 01", api.ErrSpoilt, 6},
		{"0001 0000 0001" + rest, api.ErrSpoilt, 5},
		// By class.
		{"0101", api.ErrMissing, 2},
		{"0101 01", api.ErrMissing, 2},
		{"0101 0100", api.ErrRange, 2},
		{"0101 0100 0001" + rest, api.ErrRange, 2},
		{"0101 8000 00", api.ErrRange, 2},
		{"0101 ffff 0001" + rest + "01", api.ErrRange, 2},
		{"0101 00ff", api.ErrMissing, 4},
		{"0101 0000", api.ErrMissing, 4},
		{"0101 0001 00", api.ErrMissing, 4},
		{"0101 0001 0001 0002 00", api.ErrMissing, 8},
		{"0101 0001 0001 0002 0003 0004 0005 0006 0007", api.ErrMissing, 18},
		{"0101 0001 0001 0002 0003 0004 0005 0006 0007 ff", api.ErrMissing, 18},
		{"0101 00ff 0001" + rest + "01", api.ErrSpoilt, 20},
		{"0101 00ff 0001" + rest + "00 00 00 ff 01", api.ErrSpoilt, 23},
	} {
		refuses(t, bytesOf(c.digits), c.want, c.place)
	}
}

// 7.1: each number is missed at its first byte.
func TestEveryCut(t *testing.T) {
	for _, x := range samples {
		s := bytesOf(x.digits)
		for n := range len(s) {
			refuses(t, s[:n], api.ErrMissing, n/2*2)
		}
	}
}

// 7.1: every first number, with a message of either kind behind it.
func TestReadEveryFirst(t *testing.T) {
	for n := range 1 << 16 {
		s := string([]byte{byte(n >> 8), byte(n)})
		switch n {
		case 1:
			reads(t, s+"\x00\x09", forAll(9))
		case 257:
			reads(t, s+bytesOf("0003 0009"+rest), byClass(3, 9))
		default:
			refuses(t, s, api.ErrForm, 0)
			refuses(t, s+"\x00\x09", api.ErrForm, 0)
			refuses(t, s+bytesOf("0003 0009"+rest), api.ErrForm, 0)
		}
	}
}

// 7.1: every Enable, and every time, as the only one and as one of eight.
func TestReadEveryNumber(t *testing.T) {
	for n := range 1 << 16 {
		s := string([]byte{byte(n >> 8), byte(n)})
		reads(t, "\x00\x01"+s, forAll(n))
		reads(t, "\x01\x01\x00\x05"+s+bytesOf(rest), byClass(5, n))
		if n > 255 {
			refuses(t, "\x01\x01"+s+"\x00\x01"+bytesOf(rest), api.ErrRange, 2)
			continue
		}
		reads(t, "\x01\x01"+s+"\x00\x01"+bytesOf(rest), byClass(n, 1))
	}
}

// 7.1 and property 1: whatever byte is put in another's place, what is read is valid and is written in the same way again, up to zeros.
func TestEveryChange(t *testing.T) {
	for _, x := range samples {
		s := bytesOf(x.digits)
		for i := range s {
			for c := range 256 {
				b := []byte(s)
				b[i] = byte(c)
				p, err := pause.Read(string(b))
				if err != nil {
					e, at := plain.Place(err)
					refuses(t, string(b), e, at)
					continue
				}
				again, _ := pause.Write(p)
				zeros, ok := strings.CutPrefix(string(b), again)
				if again == "" || !pause.Right(p) || !ok || strings.Trim(zeros, "\x00") != "" {
					t.Errorf("Read(%x) = %v, which is written as %x", b, p, again)
				}
			}
		}
	}
}

// 7.1: of a message by class, the bit of a class decides, the lowest one for class 0.
func TestLong(t *testing.T) {
	for enable := range 256 {
		p := api.Pause{Pfc: true, Enable: enable, Times: [8]int{10, 11, 12, 13, 14, 15, 16, 65535}}
		for class := range 8 {
			want := 0
			if enable/[...]int{1, 2, 4, 8, 16, 32, 64, 128}[class]%2 == 1 {
				want = p.Times[class]
			}
			if got := pause.Long(p, class); got != want {
				t.Errorf("Long of Enable %08b for class %d = %d, want %d", enable, class, got, want)
			}
		}
	}
}

// 7.1, the example: of a message for all, every class has the first time.
func TestLongForAll(t *testing.T) {
	for _, time := range []int{0, 1, 9, 65535} {
		for class := range 8 {
			if got := pause.Long(forAll(time), class); got != time {
				t.Errorf("Long of %d for class %d = %d", time, class, got)
			}
		}
	}
}

// 7.1: a class that isn't there has no time.
func TestLongOfNoClass(t *testing.T) {
	for _, class := range []int{math.MinInt, -8, -1, 8, 9, 63, 64, 256, 1 << 32, math.MaxInt} {
		for _, p := range []api.Pause{{}, forAll(9), byClass(255, 9), byClass(0, 9)} {
			if got := pause.Long(p, class); got != 0 {
				t.Errorf("Long(%v, %d) = %d", p, class, got)
			}
		}
	}
}

// P1: no message makes Long panic, one that may not be included.
func TestNoPanic(t *testing.T) {
	for _, p := range wrong() {
		for _, class := range []int{math.MinInt, -1, 0, 1, 7, 8, math.MaxInt} {
			pause.Long(p, class)
		}
	}
}
