package mvrp_test

import (
	"encoding/hex"
	"math"
	"math/rand"
	"slices"
	"strings"
	"testing"

	"switchyard/api"
	"switchyard/mvrp"
	"switchyard/plain"
)

// none is the place of an error that has none.
const none = -1

// bytesOf are those that digits tell; blanks are for the reader.
func bytesOf(digits string) string {
	b, err := hex.DecodeString(strings.ReplaceAll(digits, " ", ""))
	if err != nil {
		panic(digits)
	}
	return string(b)
}

// number is one of two bytes.
func number(x int) string { return string([]byte{byte(x >> 8), byte(x)}) }

// zeros are so many.
func zeros(n int) string { return strings.Repeat("\x00", n) }

// attr is an attribute without LeaveAll, and leave one with it.
func attr(first int, events ...int) api.Attr { return api.Attr{First: first, Events: events} }
func leave(first int, events ...int) api.Attr {
	return api.Attr{LeaveAll: true, First: first, Events: events}
}

// many are so many events, all of them alike.
func many(n, event int) []int { return slices.Repeat([]int{event}, n) }

// mixed are so many events, of all kinds.
func mixed(n int) []int {
	var l []int
	for i := range n {
		l = append(l, (i*i+i/5)%6)
	}
	return l
}

// same says whether attributes are equal.
func same(a, b []api.Attr) bool {
	return slices.EqualFunc(a, b, func(x, y api.Attr) bool {
		return x.LeaveAll == y.LeaveAll && x.First == y.First && slices.Equal(x.Events, y.Events)
	})
}

// copied is a list of attributes with memory of its own.
func copied(l []api.Attr) []api.Attr {
	l = slices.Clone(l)
	for i := range l {
		l[i].Events = slices.Clone(l[i].Events)
	}
	return l
}

// sample is attributes, and their bytes.
type sample struct {
	l      []api.Attr
	digits string
}

// samples are lists of attributes; the first one is the example.
func samples() []sample {
	return []sample{
		{[]api.Attr{attr(10, 1, 2, 3, 4)}, "00 0102 0004 000a 33 90 0000 0000"},
		{nil, "00 0000"},
		{[]api.Attr{leave(0)}, "00 0102 2000 0000 0000 0000"},
		{[]api.Attr{leave(4094)}, "00 0102 2000 0ffe 0000 0000"},
		{[]api.Attr{attr(1, 0)}, "00 0102 0001 0001 00 0000 0000"},
		{[]api.Attr{attr(4094, 5)}, "00 0102 0001 0ffe b4 0000 0000"},
		{[]api.Attr{leave(258, 0, 1)}, "00 0102 2002 0102 06 0000 0000"},
		{[]api.Attr{attr(4092, 5, 5, 5)}, "00 0102 0003 0ffc d7 0000 0000"},
		{[]api.Attr{leave(7, 0, 0, 1)}, "00 0102 2003 0007 01 0000 0000"},
		{[]api.Attr{attr(256, 0, 0, 0, 0)}, "00 0102 0004 0100 00 00 0000 0000"},
		{[]api.Attr{attr(9, 1), leave(3), attr(2, 3, 4, 5, 0, 2), leave(9, 1)}, "00 0102 0001 0009 24 2000 0003 0005 0002 89 0c 2001 0009 24 0000 0000"},
		{[]api.Attr{attr(1, many(400, 5)...)}, "00 0102 0190 0001" + strings.Repeat("d7", 133) + "b4 0000 0000"},
		{[]api.Attr{leave(3695, many(400, 3)...)}, "00 0102 2190 0e6f" + strings.Repeat("81", 133) + "6c 0000 0000"},
		{[]api.Attr{leave(3697, many(398, 1)...)}, "00 0102 218e 0e71" + strings.Repeat("2b", 132) + "2a 0000 0000"},
		{slices.Repeat([]api.Attr{leave(5)}, 40), "00 0102" + strings.Repeat("2000 0005", 40) + "0000 0000"},
		{slices.Repeat([]api.Attr{attr(5, 2, 4)}, 40), "00 0102" + strings.Repeat("0002 0005 60", 40) + "0000 0000"},
	}
}

// reads asks for attributes, which are valid.
func reads(t *testing.T, s string, want []api.Attr) {
	t.Helper()
	got, err := mvrp.Read(s)
	if !same(got, want) || err != nil {
		t.Errorf("Read(%x) = %.300v, %v, want %.300v", s, got, err, want)
	}
	for _, a := range got {
		if !mvrp.Right(a) {
			t.Errorf("Read(%x) has %v, which may not be", s, a)
		}
	}
}

// refuses asks for an error with its place, and for no attributes with it.
func refuses(t *testing.T, s string, want api.Errno, place int) {
	t.Helper()
	l, err := mvrp.Read(s)
	if e, at := plain.Place(err); e != want || at != place {
		t.Errorf("Read(%x): error %d at %d, want %d at %d", s, e, at, want, place)
	}
	if len(l) != 0 {
		t.Errorf("Read(%x) = %v with an error", s, l)
	}
}

// refusesToWrite asks for an error, with its place, and for no bytes with it.
func refusesToWrite(t *testing.T, l []api.Attr, want api.Errno, place int) {
	t.Helper()
	s, err := mvrp.Write(l)
	if e, at := plain.Place(err); e != want || at != place || s != "" {
		t.Errorf("Write(%.300v) = %.20x, error %d at %d, want %d at %d", l, s, e, at, want, place)
	}
}

// judges asks whether an attribute is valid, and whether writing, reading and packing agree.
func judges(t *testing.T, a api.Attr, want bool) {
	t.Helper()
	if got := mvrp.Right(a); got != want {
		t.Errorf("Right(%.300v) = %v", a, got)
	}
	before, after := attr(1, 2), leave(2)
	if !want {
		refusesToWrite(t, []api.Attr{a}, api.ErrArg, 0)
		refusesToWrite(t, []api.Attr{before, after, a, before, a}, api.ErrArg, 2)
		return
	}
	l := []api.Attr{before, a, after}
	s, err := mvrp.Write(l)
	if err != nil {
		t.Errorf("Write(%.300v): %v", l, err)
	}
	reads(t, s, l)
}

// 16.1, 16.2, the example and property 1: the bytes of attributes, in both directions.
func TestSamples(t *testing.T) {
	for _, x := range samples() {
		want := bytesOf(x.digits)
		if s, err := mvrp.Write(x.l); s != want || err != nil {
			t.Errorf("Write(%.300v) = %x, %v, want %x", x.l, s, err, want)
		}
		reads(t, want, x.l)
	}
	if s, err := mvrp.Write([]api.Attr{}); s != "\x00\x00\x00" || err != nil {
		t.Errorf("Write of an empty list = %x, %v", s, err)
	}
}

// 16.1: without events, LeaveAll is set, and First is from 0 to MaxVid; nil and empty are the same.
func TestRightWithoutEvents(t *testing.T) {
	for _, events := range [][]int{nil, {}} {
		for _, first := range []int{0, 1, 2, 255, 256, 4093, 4094} {
			judges(t, api.Attr{LeaveAll: true, First: first, Events: events}, true)
			judges(t, api.Attr{First: first, Events: events}, false)
		}
		for _, first := range []int{math.MinInt, -65536, -4094, -1, 4095, 4096, 8192, 65536, 65537, 1 << 32, math.MaxInt} {
			judges(t, api.Attr{LeaveAll: true, First: first, Events: events}, false)
			judges(t, api.Attr{First: first, Events: events}, false)
		}
	}
}

// 16.1: the VIDs of all events are from 1 to MaxVid, with LeaveAll and without.
func TestRightVids(t *testing.T) {
	for _, n := range []int{1, 2, 3, 4, 5, 6, 7, 398, 399, 400} {
		events := mixed(n)
		last := 4095 - n
		for _, first := range []int{1, 2, 3, 255, 256, last - 2, last - 1, last} {
			judges(t, attr(first, events...), true)
			judges(t, leave(first, events...), true)
		}
		for _, first := range []int{math.MinInt, math.MinInt + 1, -4094, -n, 1 - n, -1, 0, last + 1, last + 2, 4095, 4096, 65536, 65537, 1<<32 + 1, math.MaxInt - n, math.MaxInt - n + 1, math.MaxInt - 1, math.MaxInt} {
			if first > 0 && first <= last {
				continue
			}
			judges(t, attr(first, events...), false)
			judges(t, leave(first, events...), false)
		}
	}
}

// 16.1: there are at most MaxEvents events.
func TestRightCount(t *testing.T) {
	for n := 1; n <= 410; n++ {
		judges(t, attr(1, mixed(n)...), n <= 400)
		judges(t, leave(3, mixed(n)...), n <= 400)
	}
	for _, n := range []int{4094, 4095, 8191, 8192, 8193, 16384, 65536, 65537} {
		judges(t, attr(1, mixed(n)...), false)
	}
}

// 16.1: each event is from New to Lv, whichever it is of them.
func TestRightEvents(t *testing.T) {
	for _, n := range []int{1, 2, 3, 4, 5, 6, 400} {
		for _, i := range []int{0, 1, 2, 3, 4, 5, 399} {
			if i >= n {
				continue
			}
			for x := 0; x < 6; x++ {
				events := mixed(n)
				events[i] = x
				judges(t, attr(5, events...), true)
				judges(t, leave(5, events...), true)
			}
			for _, x := range []int{math.MinInt, -256, -6, -1, 6, 7, 36, 216, 256, 1 << 32, math.MaxInt} {
				events := mixed(n)
				events[i] = x
				judges(t, attr(5, events...), false)
				judges(t, leave(5, events...), false)
			}
		}
	}
}

// 16.1: all events of a byte, in order; those that are missing at the end are 0.
func TestEveryGroup(t *testing.T) {
	for x := range 216 {
		group := []int{x / 36, x / 6 % 6, x % 6}
		for n := 1; n <= 3; n++ {
			l := []api.Attr{attr(77, group[:n]...)}
			last := []int{0, x / 36 * 36, x / 6 * 6, x}[n]
			want := "\x00\x01\x02\x00" + string([]byte{byte(n)}) + "\x00\x4d" + string([]byte{byte(last)}) + zeros(4)
			if s, err := mvrp.Write(l); s != want || err != nil {
				t.Errorf("Write(%v) = %x, %v, want %x", l, s, err, want)
			}
			reads(t, want, l)
		}
	}
}

// 16.1: more than MaxVector elements are too many, without a place, even if some are not valid; otherwise the first one that is not valid is told.
func TestWriteErrors(t *testing.T) {
	valid, wrong := attr(5, 1), attr(0, 1)
	for n := range 45 {
		l := slices.Repeat([]api.Attr{valid}, n)
		if n > 40 {
			refusesToWrite(t, l, api.ErrLimit, none)
		} else if s, err := mvrp.Write(l); err != nil {
			t.Errorf("Write of %d: %x, %v", n, s, err)
		}
		for i := range l {
			one := slices.Clone(l)
			one[i] = wrong
			both := slices.Clone(one)
			both[n-1] = attr(1, 6)
			if n > 40 {
				refusesToWrite(t, one, api.ErrLimit, none)
				refusesToWrite(t, both, api.ErrLimit, none)
				continue
			}
			refusesToWrite(t, one, api.ErrArg, i)
			refusesToWrite(t, both, api.ErrArg, i)
		}
	}
	refusesToWrite(t, make([]api.Attr, 40), api.ErrArg, 0)
	refusesToWrite(t, make([]api.Attr, 41), api.ErrLimit, none)
	refusesToWrite(t, make([]api.Attr, 5000), api.ErrLimit, none)
}

// fault is bytes, what is wrong with them, and where.
type fault struct {
	digits string
	want   api.Errno
	place  int
}

// refusesAll asks for all of these errors.
func refusesAll(t *testing.T, l []fault) {
	t.Helper()
	for _, x := range l {
		refuses(t, bytesOf(x.digits), x.want, x.place)
	}
}

// 16.2: what is missing is told where it begins: a single byte, one of the two at the beginning of a message, or two bytes.
func TestMissing(t *testing.T) {
	refusesAll(t, []fault{
		{"", api.ErrMissing, 0},
		{"00", api.ErrMissing, 1}, {"00 00", api.ErrMissing, 2}, {"00 01", api.ErrMissing, 2},
		// The second byte is missing before the first one is looked at.
		{"00 02", api.ErrMissing, 2}, {"00 ff", api.ErrMissing, 2},
		{"00 0102", api.ErrMissing, 3}, {"00 0102 00", api.ErrMissing, 3}, {"00 0102 20", api.ErrMissing, 3}, {"00 0102 ff", api.ErrMissing, 3},
		{"00 0102 0000", api.ErrMissing, 5}, {"00 0102 0000 00", api.ErrMissing, 6}, {"00 0102 0000 01", api.ErrMissing, 6}, {"00 0102 0000 07", api.ErrMissing, 6},
		{"00 0102 0004", api.ErrMissing, 5}, {"00 0102 0004 00", api.ErrMissing, 5}, {"00 0102 0004 ff", api.ErrMissing, 5},
		{"00 0102 0004 000a", api.ErrMissing, 7}, {"00 0102 0004 000a 33", api.ErrMissing, 8},
		{"00 0102 0004 000a 33 90", api.ErrMissing, 9}, {"00 0102 0004 000a 33 90 00", api.ErrMissing, 9}, {"00 0102 0004 000a 33 90 0000", api.ErrMissing, 11},
		{"00 0102 2000 0000", api.ErrMissing, 7}, {"00 0102 2000 0000 00", api.ErrMissing, 7}, {"00 0102 2000 0000 0000 00", api.ErrMissing, 10},
		// That VIDs may not be is told behind the events: none of them is there.
		{"00 0102 0001 0000", api.ErrMissing, 7}, {"00 0102 0004 ffff b0", api.ErrMissing, 8},
		{"00 0102 0000 0102", api.ErrMissing, 7}, {"00 0102 0000 0102 0001 0001 00 0000 00", api.ErrMissing, 15},
	})
}

// 16.2: the first byte is 00; what a message begins with.
func TestBeginnings(t *testing.T) {
	for a := 1; a < 256; a++ {
		refuses(t, string([]byte{byte(a)}), api.ErrForm, 0)
		refuses(t, string([]byte{byte(a), 0, 0}), api.ErrForm, 0)
		refuses(t, string([]byte{byte(a), 9, 9, 9}), api.ErrForm, 0)
	}
	messages := []string{"", "\x01\x02\x00\x00", "\x01\x02\x00\x01\x00\x05\x24\x00\x00"}
	for a := range 256 {
		for b := range 256 {
			for _, before := range messages {
				s := "\x00" + before + string([]byte{byte(a), byte(b)})
				at := 1 + len(before)
				switch {
				case a == 0 && b == 0:
					_, err := mvrp.Read(s)
					if err != nil {
						t.Errorf("Read(%x): %v", s, err)
					}
				case a == 1 && b == 2:
					refuses(t, s, api.ErrMissing, at+2)
				case a == 1:
					refuses(t, s, api.ErrForm, at+1)
					refuses(t, s+"\x40\x00", api.ErrForm, at+1)
				default:
					refuses(t, s, api.ErrName, at)
					refuses(t, s+"\x40\x00", api.ErrName, at)
				}
			}
		}
	}
}

// 16.2: every first number of an attribute: below 16384, and at most MaxEvents events.
func TestEveryCount(t *testing.T) {
	for n := range 65536 {
		s := "\x00\x01\x02" + number(n)
		count := n % 8192
		switch {
		case n == 0:
			refuses(t, s, api.ErrMissing, 5)
		case n >= 16384 || count > 400:
			// First and the events are not there, and not looked at.
			refuses(t, s, api.ErrRange, 3)
			refuses(t, s+"\xff\xff\xff", api.ErrRange, 3)
		default:
			refuses(t, s, api.ErrMissing, 5)
			a := api.Attr{LeaveAll: n >= 8192, First: 3, Events: many(count, 0)}
			bytes := s + "\x00\x03" + zeros((count+2)/3)
			reads(t, bytes+zeros(4), []api.Attr{a})
			refuses(t, bytes+"\x00", api.ErrMissing, len(bytes))
			if count > 0 {
				refuses(t, bytes[:len(bytes)-1], api.ErrMissing, len(bytes)-1)
			}
		}
	}
}

// 16.2: every First; an attribute that is not valid is told at its first byte, if its events are right as bytes.
func TestEveryFirst(t *testing.T) {
	for first := range 65536 {
		for _, n := range []int{0, 1, 3, 4} {
			s := "\x00\x01\x02" + number(8192+n) + number(first) + "\x33\x90"[:(n+2)/3]
			if n == 1 {
				s = s[:7] + "\xb4"
			}
			events := [][]int{nil, {5}, 3: {1, 2, 3}, 4: {1, 2, 3, 4}}[n]
			if n == 0 && first <= 4094 || n > 0 && first >= 1 && first+n-1 <= 4094 {
				reads(t, s+zeros(4), []api.Attr{leave(first, events...)})
				continue
			}
			refuses(t, s, api.ErrRange, 3)
			refuses(t, s+"\x00", api.ErrRange, 3)
			refuses(t, s+zeros(4), api.ErrRange, 3)
			refuses(t, s+"\x40\x00", api.ErrRange, 3)
		}
	}
}

// 16.2: every byte of events: which is none, and which has something behind the last event.
func TestEveryEvents(t *testing.T) {
	for n := 1; n <= 9; n++ {
		bytes := (n + 2) / 3
		head := "\x00\x01\x02" + number(n) + "\x00\x05"
		for i := range bytes {
			for x := range 256 {
				b := []byte(head + strings.Repeat("\x24", bytes) + zeros(4))
				b[7+bytes-1] = 0
				b[7+i] = byte(x)
				rest := 0
				if i == bytes-1 {
					rest = x % []int{1, 36, 6}[n%3]
				}
				switch {
				case x > 215:
					refuses(t, string(b), api.ErrRange, 7+i)
					refuses(t, string(b[:7+i+1]), api.ErrRange, 7+i)
				case rest != 0:
					refuses(t, string(b), api.ErrSpoilt, 7+i)
					refuses(t, string(b[:7+i+1]), api.ErrSpoilt, 7+i)
				default:
					l, err := mvrp.Read(string(b))
					want := []int{x / 36, x / 6 % 6, x % 6}
					want = want[:min(3, n-3*i)]
					if err != nil || len(l) != 1 || len(l[0].Events) != n || !slices.Equal(l[0].Events[3*i:3*i+len(want)], want) {
						t.Errorf("Read(%x) = %v, %v, want events %v from %d on", b, l, err, want, 3*i)
					}
				}
			}
		}
	}
}

// 16.2: of several things that are wrong, the first one in the order of reading is told.
func TestFirstFault(t *testing.T) {
	refusesAll(t, []fault{
		{"01 0202 4000", api.ErrForm, 0},
		{"00 0202 4000", api.ErrName, 1}, {"00 0002", api.ErrName, 1}, {"00 0001", api.ErrName, 1}, {"00 0100", api.ErrForm, 2}, {"00 0101 4000", api.ErrForm, 2},
		{"00 0102 4000 ffff ff", api.ErrRange, 3}, {"00 0102 0191 ffff ff", api.ErrRange, 3}, {"00 0102 2191", api.ErrRange, 3}, {"00 0102 3fff", api.ErrRange, 3},
		// A wrong byte of events, or a rest, before VIDs that may not be.
		{"00 0102 0001 0000 d8", api.ErrRange, 7}, {"00 0102 0001 0000 01", api.ErrSpoilt, 7}, {"00 0102 0001 0000 b4", api.ErrRange, 3},
		{"00 0102 0004 ffff d7 d8", api.ErrRange, 8}, {"00 0102 0004 ffff d7 06", api.ErrSpoilt, 8}, {"00 0102 0004 ffff d7 b4", api.ErrRange, 3},
		{"00 0102 0004 ffff d8 06", api.ErrRange, 7}, {"00 0102 0004 0001 ff", api.ErrRange, 7},
		// More than 215 before a rest, in one byte.
		{"00 0102 0001 0005 d9", api.ErrRange, 7},
		// The attribute before the next one, and its message before the next one.
		{"00 0102 0001 0000 00 4000", api.ErrRange, 3}, {"00 0102 2000 0fff 0000 0300", api.ErrRange, 3}, {"00 0102 0001 0001 00 0002 0ffe 24 0000", api.ErrRange, 8},
		{"00 0102 0001 0001 24 0000 0300", api.ErrName, 10}, {"00 0102 0000 0102 4000", api.ErrRange, 7}, {"00 0102 0000 0102 0001 0000 00 0000 0000 01", api.ErrRange, 7},
		// And all of them before what is behind the end.
		{"00 0000 01", api.ErrSpoilt, 3}, {"00 0102 0000 0000 00 05", api.ErrSpoilt, 8}, {"00 0102 0000 0000 0102 4000", api.ErrSpoilt, 7},
	})
}

// 16.2: the attributes of all messages are one list; a message may have none.
func TestManyMessages(t *testing.T) {
	const one, two, empty = "0102 0001 0005 24 0000", "0102 2000 0000 0002 0007 60 0000", "0102 0000"
	first, second, third := attr(5, 1), leave(0), attr(7, 2, 4)
	for _, c := range []struct {
		digits string
		l      []api.Attr
	}{
		{empty, nil}, {empty + empty, nil}, {strings.Repeat(empty, 1000), nil},
		{one + two, []api.Attr{first, second, third}}, {two + one, []api.Attr{second, third, first}}, {one + one, []api.Attr{first, first}},
		{empty + one + empty + two + empty, []api.Attr{first, second, third}},
		{strings.Repeat(one, 40), slices.Repeat([]api.Attr{first}, 40)},
		{strings.Repeat(two, 20) + empty, slices.Repeat([]api.Attr{second, third}, 20)},
	} {
		reads(t, bytesOf("00"+c.digits+"0000"), c.l)
		reads(t, bytesOf("00"+c.digits+"0000")+zeros(30), c.l)
		refuses(t, bytesOf("00"+c.digits), api.ErrMissing, len(bytesOf(c.digits))+1)
	}
}

// group is a message of so many attributes.
func group(n int) string { return "0102" + strings.Repeat("2000 0009", n) + "0000" }

// 16.2: more than MaxVector attributes, of all messages together, are told at the first byte of the message where they are too many.
func TestLimit(t *testing.T) {
	refusesAll(t, []fault{
		{"00" + group(41) + "0000", api.ErrLimit, 1}, {"00" + group(42) + "0000", api.ErrLimit, 1}, {"00" + group(5000) + "0000", api.ErrLimit, 1},
		{"00" + group(40) + group(1) + "0000", api.ErrLimit, 165}, {"00" + group(1) + group(40) + "0000", api.ErrLimit, 9}, {"00" + group(0) + group(41) + "0000", api.ErrLimit, 5},
		{"00" + group(20) + group(20) + group(0) + group(1) + "0000", api.ErrLimit, 173},
		{"00" + strings.Repeat(group(1), 41) + "0000", api.ErrLimit, 321}, {"00" + strings.Repeat(group(1), 50) + "0000", api.ErrLimit, 321},
	})
	reads(t, bytesOf("00"+group(40)+"0000"), slices.Repeat([]api.Attr{leave(9)}, 40))
	reads(t, bytesOf("00"+group(39)+group(0)+group(1)+"0000"), slices.Repeat([]api.Attr{leave(9)}, 40))
}

// 16.2: they are too many as soon as one too many has been read: what is wrong in it, or before it, is told first, and what is behind it is not looked at.
func TestLimitOrder(t *testing.T) {
	full := "00 0102" + strings.Repeat("2000 0009", 40)
	refusesAll(t, []fault{
		{full + "4000 0009", api.ErrRange, 163}, {full + "0191 0009", api.ErrRange, 163}, {full + "20", api.ErrMissing, 163}, {full + "2000 00", api.ErrMissing, 165},
		{full + "2000 0fff", api.ErrRange, 163}, {full + "0001 0000 00", api.ErrRange, 163}, {full + "0001 0009 d8", api.ErrRange, 167}, {full + "0001 0009 25", api.ErrSpoilt, 167}, {full + "0001 0009", api.ErrMissing, 167},
		{full + "2000 0009", api.ErrLimit, 1}, {full + "2000 0009 40", api.ErrLimit, 1}, {full + "2000 0009 4000", api.ErrLimit, 1}, {full + "2000 0009 0000 0300", api.ErrLimit, 1}, {full + "2000 0009 0000 0000 01", api.ErrLimit, 1},
		{full + "0000 0102", api.ErrMissing, 167}, {full + "0000 0103", api.ErrForm, 166}, {full + "0000 0102 2000 0fff", api.ErrRange, 167}, {full + "0000 0102 2000 0009", api.ErrLimit, 165},
		{full + "0000 0000 01", api.ErrSpoilt, 167},
	})
}

// 16.2: behind the end there may be zeros, however many; any other byte is told at its position.
func TestBehind(t *testing.T) {
	for _, x := range samples() {
		s := bytesOf(x.digits)
		for _, n := range []int{0, 1, 2, 3, 50, 3000} {
			reads(t, s+zeros(n), x.l)
			for c := 1; c < 256; c++ {
				refuses(t, s+zeros(n)+string([]byte{byte(c)}), api.ErrSpoilt, len(s)+n)
			}
			refuses(t, s+zeros(n)+"\x01\x02"+zeros(n)+"\x03", api.ErrSpoilt, len(s)+n)
		}
	}
}

// told is what the document asks of bytes, read in another way: by what stands at each place.
func told(s string) (l []api.Attr, e api.Errno, place int) {
	has := func(at, n int) bool { return at+n <= len(s) }
	two := func(at int) int { return 256*int(s[at]) + int(s[at+1]) }
	if !has(0, 1) {
		return nil, api.ErrMissing, 0
	}
	if s[0] != 0 {
		return nil, api.ErrForm, 0
	}
	at, message, inside := 1, 0, false
	for {
		switch {
		case inside && !has(at, 2), !has(at, 1):
			return nil, api.ErrMissing, at
		case !has(at, 2):
			return nil, api.ErrMissing, at + 1
		case inside && two(at) == 0:
			inside, at = false, at+2
		case inside:
			a, next, e, place := toldAttr(s, at)
			if e != api.OK {
				return nil, e, place
			}
			if l = append(l, a); len(l) == 41 {
				return nil, api.ErrLimit, message
			}
			at = next
		case two(at) == 0:
			for i := at + 2; i < len(s); i++ {
				if s[i] != 0 {
					return nil, api.ErrSpoilt, i
				}
			}
			return l, api.OK, none
		case s[at] != 1:
			return nil, api.ErrName, at
		case s[at+1] != 2:
			return nil, api.ErrForm, at + 1
		default:
			message, inside, at = at, true, at+2
		}
	}
}

// toldAttr is likewise what is asked of an attribute, whose first number is there, and where the next one begins.
func toldAttr(s string, at int) (a api.Attr, next int, e api.Errno, place int) {
	n := 256*int(s[at]) + int(s[at+1])
	count := n & 0x1fff
	switch {
	case n >= 0x4000 || count > 400:
		return a, 0, api.ErrRange, at
	case at+4 > len(s):
		return a, 0, api.ErrMissing, at + 2
	}
	a = api.Attr{LeaveAll: n >= 0x2000, First: 256*int(s[at+2]) + int(s[at+3])}
	for next = at + 4; len(a.Events) < count; next++ {
		if next >= len(s) {
			return a, 0, api.ErrMissing, next
		}
		if s[next] > 215 {
			return a, 0, api.ErrRange, next
		}
		left := int(s[next])
		for _, unit := range []int{36, 6, 1} {
			if len(a.Events) < count {
				a.Events = append(a.Events, left/unit)
				left %= unit
			}
		}
		if left != 0 {
			return a, 0, api.ErrSpoilt, next
		}
	}
	if a.First > 4094 || count > 0 && (a.First < 1 || a.First+count > 4095) {
		return a, 0, api.ErrRange, at
	}
	return a, next, api.OK, none
}

// agrees asks Read for what told tells; what is read may be written, and is read from that again.
func agrees(t *testing.T, s string) {
	t.Helper()
	l, e, place := told(s)
	if e != api.OK {
		refuses(t, s, e, place)
		return
	}
	reads(t, s, l)
	again, err := mvrp.Write(l)
	if err != nil {
		t.Errorf("Write(%.300v), which %x is, = %v", l, s, err)
	}
	reads(t, again, l)
}

// 16.2: every cut of samples, and every byte of them in another's place.
func TestEveryChange(t *testing.T) {
	for _, x := range samples() {
		s := bytesOf(x.digits)
		for i := range len(s) {
			agrees(t, s[:i])
			for c := range 256 {
				b := []byte(s)
				b[i] = byte(c)
				agrees(t, string(b))
				agrees(t, string(b[:i+1]))
			}
		}
	}
}

// drawnAttr is a valid attribute.
func drawnAttr(source *rand.Rand) api.Attr {
	n := []int{0, 1, source.Intn(8), source.Intn(401)}[source.Intn(4)]
	a := api.Attr{LeaveAll: n == 0 || source.Intn(3) == 0}
	for range n {
		a.Events = append(a.Events, source.Intn(6))
	}
	if n == 0 {
		a.First = source.Intn(4095)
	} else {
		a.First = 1 + source.Intn(4095-n)
	}
	return a
}

// Property 1: what is written is read back, and what is read is written in the same way again.
func TestReadBack(t *testing.T) {
	source := rand.New(rand.NewSource(16))
	for range 5000 {
		var l []api.Attr
		for range source.Intn(41) {
			l = append(l, drawnAttr(source))
		}
		s, err := mvrp.Write(l)
		if err != nil {
			t.Fatalf("Write(%.300v): %v", l, err)
		}
		reads(t, s, l)
		got, _ := mvrp.Read(s)
		if again, err := mvrp.Write(got); again != s || err != nil {
			t.Errorf("%x is written again as %x, %v", s, again, err)
		}
		agrees(t, s[:source.Intn(len(s)+1)])
	}
}

// P1, 16.2 and property 1: texts that are drawn, most of them nearly messages.
func TestDrawn(t *testing.T) {
	source := rand.New(rand.NewSource(1))
	drawn := func(most int) string {
		b := make([]byte, source.Intn(most+1))
		for i := range b {
			b[i] = []byte{0, 0, 0, 1, 2, 0x20, byte(source.Intn(256))}[source.Intn(7)]
		}
		return string(b)
	}
	for range 50000 {
		agrees(t, drawn(12))
		agrees(t, "\x00\x01\x02"+drawn(40))
		b := []byte("\x00\x01\x02")
		for range source.Intn(50) {
			b = append(b, []string{"\x20\x00\x00\x00", "\x00\x01\x00\x07\x48", "\x20\x04\x0f\xf0\x33\x90", "\x00\x00\x01\x02"}[source.Intn(4)]...)
		}
		b = append(b, drawn(6)...)
		if source.Intn(3) == 0 {
			b[source.Intn(len(b))] = byte(source.Intn(256))
		}
		agrees(t, string(b))
		agrees(t, string(b)+zeros(4))
	}
}

// 16.3: all VIDs with their events, in order, whether the attributes may be or not.
func TestEach(t *testing.T) {
	long := attr(3000, mixed(1000)...)
	var pairs []mvrp.Pair
	for i, x := range long.Events {
		pairs = append(pairs, mvrp.Pair{Vid: 3000 + i, Event: x})
	}
	for _, c := range []struct {
		l    []api.Attr
		want []mvrp.Pair
	}{
		{nil, nil},
		{[]api.Attr{{}, leave(7), {Events: []int{}}}, nil},
		{[]api.Attr{attr(10, 1, 2, 3, 4)}, []mvrp.Pair{{10, 1}, {11, 2}, {12, 3}, {13, 4}}},
		{[]api.Attr{leave(4094, 5)}, []mvrp.Pair{{4094, 5}}},
		{[]api.Attr{attr(9, 0), leave(3), leave(8, 2, 2), attr(8, 1)}, []mvrp.Pair{{9, 0}, {8, 2}, {9, 2}, {8, 1}}},
		{[]api.Attr{attr(-1, 9, -9), attr(0, 6), attr(4095, 1, 1)}, []mvrp.Pair{{-1, 9}, {0, -9}, {0, 6}, {4095, 1}, {4096, 1}}},
		{[]api.Attr{attr(math.MaxInt, math.MinInt)}, []mvrp.Pair{{math.MaxInt, math.MinInt}}},
		{[]api.Attr{long}, pairs},
	} {
		if got := mvrp.Each(c.l); !slices.Equal(got, c.want) {
			t.Errorf("Each(%.300v) = %.300v, want %.300v", c.l, got, c.want)
		}
	}
}

// packs asks for attributes, which are valid, and of which Each tells the same.
func packs(t *testing.T, l []mvrp.Pair, want []api.Attr) {
	t.Helper()
	got, err := mvrp.Pack(l)
	if !same(got, want) || err != nil {
		t.Errorf("Pack(%.300v) = %.300v, %v, want %.300v", l, got, err, want)
	}
	if each := mvrp.Each(got); !slices.Equal(each, l) {
		t.Errorf("Each of Pack(%.300v) = %.300v", l, each)
	}
	for _, a := range got {
		if a.LeaveAll || !mvrp.Right(a) {
			t.Errorf("Pack(%.300v) has %.300v", l, a)
		}
	}
}

// 16.3: one attribute for each run of VIDs.
func TestPack(t *testing.T) {
	packs(t, nil, nil)
	packs(t, []mvrp.Pair{}, nil)
	packs(t, []mvrp.Pair{{10, 1}, {11, 2}, {12, 3}, {13, 4}}, []api.Attr{attr(10, 1, 2, 3, 4)})
	packs(t, []mvrp.Pair{{1, 0}, {4094, 5}}, []api.Attr{attr(1, 0), attr(4094, 5)})
	packs(t, []mvrp.Pair{{1, 3}, {2, 3}, {4, 3}, {6, 0}, {7, 0}, {8, 0}, {4093, 1}, {4094, 1}}, []api.Attr{attr(1, 3, 3), attr(4, 3), attr(6, 0, 0, 0), attr(4093, 1, 1)})
	var odd []mvrp.Pair
	var alone []api.Attr
	for vid := 1; vid <= 4094; vid += 2 {
		odd, alone = append(odd, mvrp.Pair{Vid: vid, Event: vid % 6}), append(alone, attr(vid, vid%6))
	}
	// More than MaxVector: that is not asked of Pack.
	packs(t, odd, alone)
}

// 16.3: an attribute has at most MaxEvents events, and the first ones of a run have as many.
func TestPackLong(t *testing.T) {
	for _, first := range []int{1, 2, 1000} {
		for _, n := range []int{1, 2, 399, 400, 401, 402, 799, 800, 801, 1200, 1201, 3000, 3095, 4093, 4094} {
			if first+n-1 > 4094 {
				continue
			}
			events := mixed(n)
			pairs := mvrp.Each([]api.Attr{attr(first, events...)})
			var want []api.Attr
			for i := 0; i < n; i += 400 {
				want = append(want, attr(first+i, events[i:min(i+400, n)]...))
			}
			packs(t, pairs, want)
			if first == 2 && n < 4000 {
				far := mvrp.Pair{Vid: 4094, Event: 5}
				packs(t, append(pairs, far), append(want, attr(4094, 5)))
			}
		}
	}
}

// refusesToPack asks for an error with its place, and for no attributes with it.
func refusesToPack(t *testing.T, l []mvrp.Pair, want api.Errno, place int) {
	t.Helper()
	got, err := mvrp.Pack(l)
	if e, at := plain.Place(err); e != want || at != place || len(got) != 0 {
		t.Errorf("Pack(%.300v) = %.300v, error %d at %d, want %d at %d", l, got, e, at, want, place)
	}
}

// 16.3: VIDs that do not rise, and VIDs and events that may not be; pair by pair, the order first.
func TestPackErrors(t *testing.T) {
	for _, x := range []int{math.MinInt, -4094, -1, 0, 4095, 4096, 65536, 1<<32 + 1, math.MaxInt} {
		refusesToPack(t, []mvrp.Pair{{x, 1}}, api.ErrArg, 0)
		refusesToPack(t, []mvrp.Pair{{x, 1}, {x, 1}}, api.ErrArg, 0)
		if x > 5 {
			refusesToPack(t, []mvrp.Pair{{5, 1}, {x, 1}, {1, 9}}, api.ErrArg, 1)
			refusesToPack(t, []mvrp.Pair{{4094, 1}, {x, 1}}, api.ErrArg, 1)
		} else {
			refusesToPack(t, []mvrp.Pair{{5, 1}, {x, 1}, {1, 9}}, api.ErrOrder, 1)
			refusesToPack(t, []mvrp.Pair{{1, 1}, {x, 1}}, api.ErrOrder, 1)
		}
	}
	for _, x := range []int{math.MinInt, -1, 6, 7, 216, 1 << 32, math.MaxInt} {
		refusesToPack(t, []mvrp.Pair{{5, x}}, api.ErrArg, 0)
		refusesToPack(t, []mvrp.Pair{{5, 1}, {6, x}}, api.ErrArg, 1)
		refusesToPack(t, []mvrp.Pair{{5, 1}, {8, x}, {8, 1}}, api.ErrArg, 1)
		refusesToPack(t, []mvrp.Pair{{5, 1}, {5, x}}, api.ErrOrder, 1)
		refusesToPack(t, []mvrp.Pair{{5, 1}, {4, x}}, api.ErrOrder, 1)
	}
	refusesToPack(t, []mvrp.Pair{{5, 1}, {6, 1}, {6, 1}}, api.ErrOrder, 2)
	refusesToPack(t, []mvrp.Pair{{5, 1}, {9, 1}, {8, 1}, {8, 9}}, api.ErrOrder, 2)
	refusesToPack(t, []mvrp.Pair{{5, 9}, {5, 1}}, api.ErrArg, 0)
	long := mvrp.Each([]api.Attr{attr(1, mixed(4094)...)})
	refusesToPack(t, append(long, mvrp.Pair{Vid: 4095, Event: 1}), api.ErrArg, 4094)
	refusesToPack(t, append(long, mvrp.Pair{Vid: 4094, Event: 1}), api.ErrOrder, 4094)
}

// 16.3: of drawn lists, as many attributes as there are runs, each cut into parts of MaxEvents.
func TestPackDrawn(t *testing.T) {
	source := rand.New(rand.NewSource(3))
	for range 300 {
		rare := 1 + source.Intn(600)
		var pairs []mvrp.Pair
		var want []api.Attr
		for vid := 1 + source.Intn(50); vid <= 4094; vid++ {
			event := source.Intn(6)
			if source.Intn(rare) == 0 {
				vid += 1 + source.Intn(30)
				want = append(want, api.Attr{})
			}
			if vid > 4094 {
				break
			}
			if len(want) == 0 || len(want[len(want)-1].Events) == 400 {
				want = append(want, api.Attr{})
			}
			last := &want[len(want)-1]
			if len(last.Events) == 0 {
				last.First = vid
			}
			last.Events = append(last.Events, event)
			pairs = append(pairs, mvrp.Pair{Vid: vid, Event: event})
		}
		want = slices.DeleteFunc(want, func(a api.Attr) bool { return len(a.Events) == 0 })
		packs(t, pairs, want)
	}
}

// P4: attributes and pairs are not changed, nor the memory behind them.
func TestArgsStay(t *testing.T) {
	events := []int{1, 2, 3, 4, 5, 77, 78, 79}
	room := []api.Attr{attr(5, events[:5]...), leave(7), attr(9, events[5:6]...), {First: 99}}
	kept, before := slices.Clone(events), copied(room)
	for n := range len(room) + 1 {
		mvrp.Write(room[:n])
		mvrp.Each(room[:n])
	}
	for _, a := range room {
		mvrp.Right(a)
	}
	if !slices.Equal(events, kept) || !same(room, before) {
		t.Errorf("%v is changed to %v, or %v to %v", before, room, kept, events)
	}
	pairs := []mvrp.Pair{{1, 1}, {2, 2}, {5, 5}, {5, 5}, {9, 9}}
	old := slices.Clone(pairs)
	for n := range len(pairs) + 1 {
		mvrp.Pack(pairs[:n])
	}
	if !slices.Equal(pairs, old) {
		t.Errorf("%v is changed to %v", old, pairs)
	}
}

// P4: results are memory of their own, and so are the events of each attribute of one result.
func TestResultsAreNew(t *testing.T) {
	s := bytesOf("00 0102 0004 000a 33 90 2002 0005 4e 0000 0102 0001 0007 24 0000 0000")
	want := []api.Attr{attr(10, 1, 2, 3, 4), leave(5, 2, 1), attr(7, 1)}
	pairs := mvrp.Each([]api.Attr{attr(1, mixed(401)...), attr(900, 1, 2)})
	packed, _ := mvrp.Pack(pairs)
	for _, c := range []struct {
		want []api.Attr
		call func() []api.Attr
	}{
		{want, func() []api.Attr { l, _ := mvrp.Read(s); return l }},
		{copied(packed), func() []api.Attr { l, _ := mvrp.Pack(pairs); return l }},
	} {
		l := c.call()
		for i := range l {
			other := c.call()
			// Both its events and the room behind them.
			whole := other[i].Events[:cap(other[i].Events)]
			for k := range whole {
				whole[k] = 99
			}
			other[i].Events = c.want[i].Events
			if !same(other, c.want) || !same(l, c.want) {
				t.Errorf("attribute %d shares memory: %.300v, %.300v", i, other, l)
			}
		}
	}
	first, second := mvrp.Each(want), mvrp.Each(want)
	first[0] = mvrp.Pair{Vid: 99, Event: 99}
	if second[0] != (mvrp.Pair{Vid: 10, Event: 1}) {
		t.Errorf("two results of Each share memory: %v", second)
	}
}
