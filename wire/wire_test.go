package wire_test

import (
	"errors"
	"math"
	"strconv"
	"strings"
	"testing"

	"switchyard/api"
	"switchyard/plain"
	"switchyard/wire"
)

// none is the place of an error that has none.
const none = -1

// checkErr compares an error's Errno and place; OK asks for nil.
func checkErr(t *testing.T, what string, err error, e api.Errno, place int) {
	t.Helper()
	if e == api.OK {
		if err != nil {
			t.Errorf("%s: error %v, want none", what, err)
		}
		return
	}
	if !errors.Is(err, e) {
		t.Errorf("%s: error %v, want %v", what, err, e)
	}
	if got, at := plain.Place(err); got != e || at != place {
		t.Errorf("%s: error %d at %d, want %d at %d", what, got, at, e, place)
	}
}

// checkReader compares where a Reader is, how much is left, and what it has noted.
func checkReader(t *testing.T, what string, r *wire.Reader, at, left int, e api.Errno, place int) {
	t.Helper()
	if r.At() != at || r.Left() != left {
		t.Errorf("%s: at %d with %d left, want at %d with %d left", what, r.At(), r.Left(), at, left)
	}
	checkErr(t, what, r.Err(), e, place)
}

// 1.1, and P5: the most significant byte comes first.
func TestPut(t *testing.T) {
	for _, c := range []struct {
		x    uint64
		n    int
		want string
	}{
		{258, 3, "\x00\x01\x02"},
		{0, 1, "\x00"},
		{0, 8, "\x00\x00\x00\x00\x00\x00\x00\x00"},
		{255, 1, "\xff"},
		{256, 2, "\x01\x00"},
		{0x8100, 2, "\x81\x00"},
		{0x0180c2000e, 6, "\x00\x01\x80\xc2\x00\x0e"},
		{0x0102030405060708, 8, "\x01\x02\x03\x04\x05\x06\x07\x08"},
		{math.MaxInt64, 8, "\x7f\xff\xff\xff\xff\xff\xff\xff"},
		{1 << 63, 8, "\x80\x00\x00\x00\x00\x00\x00\x00"},
		{math.MaxUint64, 8, "\xff\xff\xff\xff\xff\xff\xff\xff"},
	} {
		s, err := wire.Put(c.x, c.n)
		checkErr(t, "Put", err, api.OK, none)
		if s != c.want {
			t.Errorf("Put(%d, %d) = %x, want %x", c.x, c.n, s, c.want)
		}
	}
}

// 1.1: of every width, the greatest number has room, and the next has none.
func TestPutFull(t *testing.T) {
	for n := 1; n < 8; n++ {
		most := uint64(1)<<(8*n) - 1
		s, err := wire.Put(most, n)
		checkErr(t, "the greatest", err, api.OK, none)
		if s != strings.Repeat("\xff", n) {
			t.Errorf("Put(%d, %d) = %x", most, n, s)
		}
		for _, x := range []uint64{most + 1, most + 2, 1 << 63, math.MaxUint64} {
			s, err := wire.Put(x, n)
			checkErr(t, "one more", err, api.ErrFull, none)
			if s != "" {
				t.Errorf("Put(%d, %d) = %x with an error", x, n, s)
			}
		}
	}
}

// 1.1, P1, P2 and P3: a wrong width is told before a number without room, without a place, and nothing else is.
func TestPutRange(t *testing.T) {
	for _, n := range []int{math.MinInt, -8, -1, 0, 9, 10, 64, math.MaxInt} {
		for _, x := range []uint64{0, 1, 258, math.MaxUint64} {
			s, err := wire.Put(x, n)
			checkErr(t, "Put", err, api.ErrRange, none)
			if s != "" {
				t.Errorf("Put(%d, %d) = %x with an error", x, n, s)
			}
		}
	}
}

// 1.1: Must is Put, without the error.
func TestMust(t *testing.T) {
	numbers := []int{0, 1, 2, 127, 128, 255, 256, 258, 65535, 65536, 1<<24 - 1, 1 << 24, 1 << 32, 1<<40 + 5, 1<<62 - 1, 1 << 62}
	for _, x := range numbers {
		for n := -2; n <= 11; n++ {
			want, _ := wire.Put(uint64(x), n)
			if s := wire.Must(x, n); s != want {
				t.Errorf("Must(%d, %d) = %x, want %x", x, n, s, want)
			}
		}
	}
	if s := wire.Must(258, 3); s != "\x00\x01\x02" {
		t.Errorf("Must(258, 3) = %x", s)
	}
	if s := wire.Must(1<<62, 8); s != "\x40\x00\x00\x00\x00\x00\x00\x00" {
		t.Errorf("Must(1<<62, 8) = %x", s)
	}
	for _, n := range []int{math.MinInt, -1, 0, 1, 9, math.MaxInt} {
		if s := wire.Must(256, n); s != "" {
			t.Errorf("Must(256, %d) = %x", n, s)
		}
	}
}

// Fits is for all numbers that Put writes in so many bytes, but none below 0; of no numbers, it is.
func TestFits(t *testing.T) {
	numbers := []int{math.MinInt, -1 << 32, -256, -1, 0, 1, 255, 256, 65535, 65536, 1<<24 - 1, 1 << 24, 1<<32 - 1, 1 << 32, 1<<56 - 1, 1 << 56, math.MaxInt}
	for n := -1; n <= 10; n++ {
		for _, x := range numbers {
			_, err := wire.Put(uint64(x), n)
			want := x >= 0 && err == nil
			if got := wire.Fits(n, x); got != want {
				t.Errorf("Fits(%d, %d) = %v", n, x, got)
			}
			for _, l := range [][]int{{x, 1, 2}, {1, x, 2}, {1, 2, x}} {
				if got := wire.Fits(n, l...); got != want {
					t.Errorf("Fits(%d, %d) = %v", n, l, got)
				}
			}
		}
	}
	if !wire.Fits(1) || !wire.Fits(2, 0, 1, 65535) || wire.Fits(2, 0, 1, 65536) {
		t.Error("Fits: another answer")
	}
}

// 1.2: At begins at off and grows by what is read, and Left falls by it.
func TestReaderReads(t *testing.T) {
	for _, off := range []int{0, 14, 1 << 40} {
		r := wire.New("\x00\x01\x02abc\x00\x00", off)
		checkReader(t, "new", r, off, 8, api.OK, none)
		if x := r.Num(3); x != 258 {
			t.Errorf("Num(3) = %d, want 258", x)
		}
		checkReader(t, "after Num", r, off+3, 5, api.OK, none)
		if s := r.Bytes(0); s != "" {
			t.Errorf("Bytes(0) = %q", s)
		}
		checkReader(t, "after no bytes", r, off+3, 5, api.OK, none)
		if s := r.Bytes(3); s != "abc" {
			t.Errorf("Bytes(3) = %q, want abc", s)
		}
		checkReader(t, "after Bytes", r, off+6, 2, api.OK, none)
		if !r.Zeros() {
			t.Error("Zeros: false")
		}
		checkReader(t, "after Zeros", r, off+8, 0, api.OK, none)
		if r.Bytes(0) != "" || !r.Zeros() {
			t.Error("at the end: no bytes should be there")
		}
		checkReader(t, "at the end", r, off+8, 0, api.OK, none)
	}
}

// 1.2: the first error is kept, with its place, and nothing is read after it.
func TestFail(t *testing.T) {
	r := wire.New("\x00\x01\x02", 100)
	r.Num(1)
	r.Fail(api.ErrState, 7)
	r.Fail(api.ErrCycle, 8)
	for _, n := range []int{-1, 0, 1, 2, 3, 9} {
		if s := r.Bytes(n); s != "" {
			t.Errorf("Bytes(%d) = %x after an error", n, s)
		}
		if x := r.Num(n); x != 0 {
			t.Errorf("Num(%d) = %d after an error", n, x)
		}
		checkReader(t, "Sub", r.Sub(n), 101, 0, api.ErrState, 7)
		if r.Zeros() {
			t.Error("Zeros: true after an error")
		}
		checkReader(t, "after an error", r, 101, 2, api.ErrState, 7)
	}
}

// 1.2: Zeros is false after an error, even where only zeros, or nothing, are left, and reads none of them.
func TestZerosAfterFail(t *testing.T) {
	for _, s := range []string{"", "\x00", "\x00\x00\x00"} {
		r := wire.New(s, 5)
		r.Fail(api.ErrForm, 5)
		if r.Zeros() {
			t.Errorf("Zeros of %x: true after an error", s)
		}
		checkReader(t, "Zeros", r, 5, len(s), api.ErrForm, 5)
	}
}

// 1.2: the place is what Fail is told, wherever the Reader is.
func TestFailPlace(t *testing.T) {
	for _, at := range []int{0, 3, 1 << 40, -1, math.MinInt, math.MaxInt} {
		r := wire.New("abc", 3)
		r.Fail(api.ErrArg, at)
		var a *api.At
		if !errors.As(r.Err(), &a) || a.Err != api.ErrArg || a.Place != at {
			t.Errorf("Fail at %d: %v", at, a)
		}
	}
}

// 1.2: errors of Bytes.
func TestBytesErrors(t *testing.T) {
	for _, c := range []struct {
		n int
		e api.Errno
	}{
		{math.MinInt, api.ErrRange}, {-1, api.ErrRange},
		{3, api.ErrMissing}, {4, api.ErrMissing}, {math.MaxInt, api.ErrMissing},
	} {
		r := wire.New("abcd", 20)
		r.Bytes(2)
		if s := r.Bytes(c.n); s != "" {
			t.Errorf("Bytes(%d) = %q", c.n, s)
		}
		checkReader(t, "Bytes", r, 22, 2, c.e, 22)
	}
	r := wire.New("", 6)
	r.Bytes(1)
	checkReader(t, "Bytes of nothing", r, 6, 0, api.ErrMissing, 6)
}

// 1.2: numbers of every width; eight bytes wrap.
func TestNum(t *testing.T) {
	s := "\x01\x02\x03\x04\x05\x06\x07\x08"
	want := []int{0x01, 0x0102, 0x010203, 0x01020304, 0x0102030405, 0x010203040506, 0x01020304050607, 0x0102030405060708}
	for i, w := range want {
		r := wire.New(s+"\xff", 0)
		if x := r.Num(i + 1); x != w {
			t.Errorf("Num(%d) = %x, want %x", i+1, x, w)
		}
		checkReader(t, "Num", r, i+1, 8-i, api.OK, none)
	}
	for _, c := range []struct {
		s    string
		want int
	}{
		{"\xff", 255},
		{"\x80\x00", 1 << 15},
		{"\xff\xff\xff\xff", 1<<32 - 1},
		{"\xff\xff\xff\xff\xff\xff\xff", 1<<56 - 1},
		{"\x7f\xff\xff\xff\xff\xff\xff\xff", math.MaxInt64},
		{"\x80\x00\x00\x00\x00\x00\x00\x00", math.MinInt64},
		{"\xff\xff\xff\xff\xff\xff\xff\xff", -1},
	} {
		if x := wire.New(c.s, 0).Num(len(c.s)); x != c.want {
			t.Errorf("Num of %x = %d, want %d", c.s, x, c.want)
		}
	}
}

// 1.2: errors of Num; a wrong width is told even where bytes are missing.
func TestNumErrors(t *testing.T) {
	for _, c := range []struct {
		n int
		e api.Errno
	}{
		{math.MinInt, api.ErrRange}, {-1, api.ErrRange}, {0, api.ErrRange}, {9, api.ErrRange}, {math.MaxInt, api.ErrRange},
		{4, api.ErrMissing}, {8, api.ErrMissing},
	} {
		r := wire.New("abcde", 20)
		r.Num(2)
		if x := r.Num(c.n); x != 0 {
			t.Errorf("Num(%d) = %d", c.n, x)
		}
		checkReader(t, "Num", r, 22, 3, c.e, 22)
	}
	r := wire.New("0123456789", 0)
	r.Num(9)
	checkReader(t, "nine bytes that are there", r, 0, 10, api.ErrRange, 0)
}

// 1.2: what is written is read back.
func TestPutNum(t *testing.T) {
	for n := 1; n <= 8; n++ {
		for bit := 0; bit < 8*n; bit++ {
			for _, x := range []uint64{1 << bit, 1<<bit - 1, 1<<bit | 1} {
				s, err := wire.Put(x, n)
				checkErr(t, "Put", err, api.OK, none)
				r := wire.New(s, 0)
				if got := r.Num(n); got != int(x) {
					t.Errorf("%d in %d bytes is read as %d", x, n, got)
				}
				checkReader(t, "Num", r, n, 0, api.OK, none)
			}
		}
	}
}

// Expect reads bytes that are one of some texts; any other, as long as the first one, are ErrForm where they begin.
func TestExpect(t *testing.T) {
	for _, c := range []struct {
		s      string
		text   string
		others []string
		want   string
		e      api.Errno
	}{
		{"abcd", "ab", nil, "ab", api.OK},
		{"ab", "ab", nil, "ab", api.OK},
		{"abcd", "ax", []string{"bb", "ab", "cd"}, "ab", api.OK},
		{"\x00\xff", "\x00", []string{"\xff"}, "\x00", api.OK},
		{"\xff\x00", "\x00", []string{"\xff"}, "\xff", api.OK},
		{"abcd", "", nil, "", api.OK},
		{"", "", nil, "", api.OK},
		{"abcd", "ac", nil, "", api.ErrForm},
		{"abcd", "Ab", []string{"aB", "ba"}, "", api.ErrForm},
		{"abcd", "xy", []string{"a", "abc", ""}, "", api.ErrForm},
		{"", "a", nil, "", api.ErrMissing},
		{"ab", "abc", nil, "", api.ErrMissing},
		{"xy", "abc", []string{"xy"}, "", api.ErrMissing},
	} {
		r := wire.New("--"+c.s, 40)
		r.Bytes(2)
		if got := r.Expect(c.text, c.others...); got != c.want {
			t.Errorf("Expect(%q, %q) of %q = %q, want %q", c.text, c.others, c.s, got, c.want)
		}
		read := len(c.text)
		if c.e == api.ErrMissing {
			read = 0
		}
		checkReader(t, "Expect of "+strconv.Quote(c.s), r, 42+read, len(c.s)-read, c.e, 42)
	}
}

// 1.2: once an error has been noted, Expect reads nothing, whatever comes next.
func TestExpectAfterFail(t *testing.T) {
	for _, text := range []string{"ab", "xy", "abcdef", ""} {
		r := wire.New("abcd", 0)
		r.Fail(api.ErrName, 3)
		if got := r.Expect(text, "cd", ""); got != "" {
			t.Errorf("Expect(%q) = %q after an error", text, got)
		}
		checkReader(t, "Expect after an error", r, 0, 4, api.ErrName, 3)
	}
}

// P4: Expect neither changes nor keeps the texts that it is told.
func TestExpectKeepsNothing(t *testing.T) {
	others := []string{"xy", "ab", "zz"}
	r := wire.New("abab", 0)
	first := r.Expect("cd", others[:2]...)
	if first != "ab" || others[0] != "xy" || others[1] != "ab" || others[2] != "zz" {
		t.Errorf("Expect = %q, and the texts are %q", first, others)
	}
	others[1] = "cc"
	r.Expect("cd", others...)
	checkReader(t, "Expect of other texts", r, 4, 0, api.ErrForm, 2)
}

// 1.2: Zeros reads up to the first byte that is not 0, and tells its place.
func TestZeros(t *testing.T) {
	for _, c := range []struct {
		s    string
		zero int
	}{
		{"", 0}, {"\x00", 1}, {"\x00\x00\x00", 3},
		{"\x01", 0}, {"\x00\xff", 1}, {"\x00\x00\x80\x00", 2}, {"0\x00", 0}, {"\x00\x00\x01\x00\x02", 2},
	} {
		r := wire.New("ab"+c.s, 30)
		r.Bytes(2)
		all := c.zero == len(c.s)
		if got := r.Zeros(); got != all {
			t.Errorf("Zeros of %x: %v", c.s, got)
		}
		e := api.ErrSpoilt
		if all {
			e = api.OK
		}
		checkReader(t, "Zeros", r, 32+c.zero, len(c.s)-c.zero, e, 32+c.zero)
	}
}

// 1.2: Sub reads the bytes from where they stand, and this Reader goes on behind them.
func TestSub(t *testing.T) {
	r := wire.New("abcdefgh", 10)
	r.Bytes(1)
	sub := r.Sub(4)
	checkReader(t, "the part", sub, 11, 4, api.OK, none)
	checkReader(t, "the whole", r, 15, 3, api.OK, none)
	if s := sub.Bytes(4); s != "bcde" {
		t.Errorf("the part has %q", s)
	}
	sub.Bytes(1)
	checkReader(t, "the part, at its end", sub, 15, 0, api.ErrMissing, 15)
	if s := r.Bytes(3); s != "fgh" {
		t.Errorf("behind the part is %q", s)
	}
	checkReader(t, "the whole, at its end", r, 18, 0, api.OK, none)
	checkReader(t, "an empty part", r.Sub(0), 18, 0, api.OK, none)
}

// 1.2: an error of Sub is noted by both, at the same place.
func TestSubErrors(t *testing.T) {
	for _, c := range []struct {
		n int
		e api.Errno
	}{
		{math.MinInt, api.ErrRange}, {-1, api.ErrRange}, {4, api.ErrMissing}, {math.MaxInt, api.ErrMissing},
	} {
		r := wire.New("\x00\x00abc", 10)
		r.Num(2)
		sub := r.Sub(c.n)
		checkReader(t, "the part", sub, 12, 0, c.e, 12)
		checkReader(t, "the whole", r, 12, 3, c.e, 12)
		if sub.Zeros() || sub.Bytes(0) != "" || sub.Num(1) != 0 {
			t.Errorf("Sub(%d): it reads on", c.n)
		}
	}
}

// 1.2: afterwards both are independent: an error of one is not the other's.
func TestSubIndependent(t *testing.T) {
	r := wire.New("abcd", 0)
	left, right := r.Sub(2), r.Sub(2)
	r.Fail(api.ErrOrder, 4)
	left.Fail(api.ErrTwice, 1)
	checkReader(t, "the whole", r, 4, 0, api.ErrOrder, 4)
	checkReader(t, "the left part", left, 0, 2, api.ErrTwice, 1)
	checkReader(t, "the right part", right, 2, 2, api.OK, none)
	if s := right.Bytes(2); s != "cd" {
		t.Errorf("the right part has %q", s)
	}
	checkReader(t, "a part of a part", left.Sub(1), 0, 0, api.ErrTwice, 1)
}

// P4: results are new memory: an error that a caller changes stays what it was for the Reader and its parts.
func TestErrIsNew(t *testing.T) {
	r := wire.New("abc", 0)
	r.Fail(api.ErrName, 2)
	sub := r.Sub(1)
	var a *api.At
	if !errors.As(r.Err(), &a) {
		t.Fatal("no place")
	}
	a.Err, a.Place = api.ErrDevice, 77
	checkErr(t, "the Reader", r.Err(), api.ErrName, 2)
	checkErr(t, "its part", sub.Err(), api.ErrName, 2)
}

// P4: a result depends on the text and the calls before only: two Readers of one text go their own ways.
func TestReadersApart(t *testing.T) {
	s := "\x01\x02\x03\x04"
	one, other := wire.New(s, 0), wire.New(s, 0)
	one.Num(3)
	one.Bytes(2)
	checkReader(t, "the one", one, 3, 1, api.ErrMissing, 3)
	checkReader(t, "the other", other, 0, 4, api.OK, none)
	if x := other.Num(4); x != 0x01020304 {
		t.Errorf("the other reads %x", x)
	}
}

// P1: no argument makes a call panic, beyond what is specified too.
func TestNoPanic(t *testing.T) {
	odd := []int{math.MinInt, math.MinInt + 1, -1 << 40, -1, 0, 1, 1 << 40, math.MaxInt - 1, math.MaxInt}
	for _, x := range odd {
		for _, n := range odd {
			wire.Must(x, n)
			r := wire.New("\x00\x00ab", x)
			r.Sub(n).Num(n)
			r.Num(n)
			r.Bytes(n)
			r.Expect("\x00", "a")
			r.Zeros()
			r.Fail(api.Errno(n), x)
			if r.Err() == nil {
				t.Errorf("New(.., %d), %d: no error", x, n)
			}
			_ = r.Err().Error()
		}
	}
}

// P5: texts are bytes, whatever they would be as runes.
func TestBytesAreBytes(t *testing.T) {
	r := wire.New("\xc3\xa9\xff\x00\xe2\x82", 0)
	if s := r.Bytes(1); s != "\xc3" {
		t.Errorf("the first byte is %x", s)
	}
	if x := r.Num(2); x != 0xa9ff {
		t.Errorf("the next two are %x", x)
	}
	if r.Zeros() {
		t.Error("Zeros: true")
	}
	checkReader(t, "Zeros", r, 4, 2, api.ErrSpoilt, 4)
}
