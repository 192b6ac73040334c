package prio_test

import (
	"encoding/hex"
	"math"
	"slices"
	"strconv"
	"strings"
	"testing"

	"switchyard/api"
	"switchyard/plain"
	"switchyard/prio"
	"switchyard/wire"
)

// none is the place of an error that has none.
const none = -1

// bytesOf are those that digits tell; blanks are for the reader.
func bytesOf(digits string) string {
	b, err := hex.DecodeString(strings.ReplaceAll(digits, " ", ""))
	if err != nil {
		panic(digits)
	}
	return string(b)
}

// is asks for a result without an error.
func is[T comparable](t *testing.T, what string, got T, err error, want T) {
	t.Helper()
	if got != want || err != nil {
		t.Errorf("%s: %v, %v, want %v", what, got, err, want)
	}
}

// fails asks for an error, with its place, and with it for no other result.
func fails[T comparable](t *testing.T, what string, got T, err error, want api.Errno, place int) {
	t.Helper()
	if e, at := plain.Place(err); e != want || at != place {
		t.Errorf("%s: error %d at %d, want %d at %d", what, e, at, want, place)
	}
	var zero T
	if got != zero {
		t.Errorf("%s: %v with an error", what, got)
	}
}

// bridges are valid identifiers of bridges, rising, with the bytes and the text of each.
var bridges = []struct {
	b      api.Bridge
	digits string
	text   string
}{
	{api.Bridge{}, "0000 000000000000", "0.0/00:00:00:00:00:00"},
	{api.Bridge{Addr: api.Addr{0, 0, 0, 0, 0, 1}}, "0000 000000000001", "0.0/00:00:00:00:00:01"},
	{api.Bridge{Addr: api.Addr{255, 255, 255, 255, 255, 255}}, "0000 ffffffffffff", "0.0/ff:ff:ff:ff:ff:ff"},
	{api.Bridge{Ext: 1}, "0001 000000000000", "0.1/00:00:00:00:00:00"},
	{api.Bridge{Ext: 10, Addr: api.Addr{1, 2, 3, 4, 5, 6}}, "000a 010203040506", "0.10/01:02:03:04:05:06"},
	{api.Bridge{Ext: 4095, Addr: api.Addr{9}}, "0fff 090000000000", "0.4095/09:00:00:00:00:00"},
	{api.Bridge{Prio: 4096}, "1000 000000000000", "4096.0/00:00:00:00:00:00"},
	{api.Bridge{Prio: 28672, Ext: 4095, Addr: api.Addr{0x7f, 0x80}}, "7fff 7f8000000000", "28672.4095/7f:80:00:00:00:00"},
	{api.Bridge{Prio: 32768, Ext: 5, Addr: api.Addr{0, 1}}, "8005 000100000000", "32768.5/00:01:00:00:00:00"},
	{api.Bridge{Prio: 32768, Ext: 5, Addr: api.Addr{0x80, 1}}, "8005 800100000000", "32768.5/80:01:00:00:00:00"},
	{api.Bridge{Prio: 61440}, "f000 000000000000", "61440.0/00:00:00:00:00:00"},
	{api.Bridge{Prio: 61440, Ext: 4095, Addr: api.Addr{0xde, 0xad, 0xbe, 0xef, 0, 0x0a}}, "ffff deadbeef000a", "61440.4095/de:ad:be:ef:00:0a"},
}

// ports are valid identifiers of ports, rising, with the bytes of each.
var ports = []struct {
	p      api.Port
	digits string
}{
	{api.Port{No: 1}, "0001"},
	{api.Port{No: 255}, "00ff"},
	{api.Port{No: 256}, "0100"},
	{api.Port{No: 4095}, "0fff"},
	{api.Port{Prio: 16, No: 1}, "1001"},
	{api.Port{Prio: 112, No: 4095}, "7fff"},
	{api.Port{Prio: 128, No: 2}, "8002"},
	{api.Port{Prio: 240, No: 1}, "f001"},
	{api.Port{Prio: 240, No: 4095}, "ffff"},
}

// far are numbers that no part of an identifier is.
var far = []int{math.MinInt, -1 << 32, -65536, -61440, -4096, -240, -16, -1, 65536, 65535 + 4096, 1 << 32, 1<<32 + 4096, math.MaxInt - 4095, math.MaxInt}

// wrongBridges are identifiers of bridges that are not valid.
func wrongBridges() []api.Bridge {
	addr := api.Addr{0, 1}
	var l []api.Bridge
	for _, x := range append([]int{1, 5, 16, 2048, 4095, 4097, 8191, 32767, 32769, 32773, 61439, 61441, 65535}, far...) {
		l = append(l, api.Bridge{Prio: x, Addr: addr}, api.Bridge{Prio: x, Ext: 5})
	}
	for _, x := range append([]int{4096, 4097, 8192, 32768, 61440, 65535}, far...) {
		l = append(l, api.Bridge{Ext: x, Addr: addr}, api.Bridge{Prio: 32768, Ext: x}, api.Bridge{Prio: 61440, Ext: x})
	}
	// What is too much of the one is not made up for by the other.
	return append(l, api.Bridge{Prio: 65536, Ext: -1}, api.Bridge{Prio: -4096, Ext: 4096}, api.Bridge{Prio: 4097, Ext: -1})
}

// wrongPorts are identifiers of ports that are not valid.
func wrongPorts() []api.Port {
	var l []api.Port
	for _, x := range append([]int{1, 2, 8, 15, 17, 127, 129, 239, 241, 255, 256, 4097, 32769}, far...) {
		l = append(l, api.Port{Prio: x, No: 1}, api.Port{Prio: x, No: 4095}, api.Port{Prio: x})
	}
	for _, x := range append([]int{0, 4096, 4097, 8192, 65535}, far...) {
		l = append(l, api.Port{No: x}, api.Port{Prio: 128, No: x}, api.Port{Prio: 240, No: x})
	}
	return append(l, api.Port{Prio: 256, No: -1}, api.Port{Prio: -16, No: 4097}, api.Port{Prio: 4096, No: 1})
}

// 8.1: which identifiers of bridges are valid.
func TestRight(t *testing.T) {
	for _, x := range bridges {
		if !prio.Right(x.b) {
			t.Errorf("Right(%v) = false", x.b)
		}
	}
	for x := -5000; x <= 70000; x++ {
		if got, want := prio.Right(api.Bridge{Prio: x}), x >= 0 && x <= 61440 && x%4096 == 0; got != want {
			t.Errorf("Right with Prio %d = %v", x, got)
		}
		if got, want := prio.Right(api.Bridge{Prio: 4096, Ext: x}), x >= 0 && x <= 4095; got != want {
			t.Errorf("Right with Ext %d = %v", x, got)
		}
	}
	for _, b := range wrongBridges() {
		if prio.Right(b) {
			t.Errorf("Right(%v) = true", b)
		}
	}
}

// 8.1: which identifiers of ports are valid.
func TestPort(t *testing.T) {
	for _, x := range ports {
		if !prio.Port(x.p) {
			t.Errorf("Port(%v) = false", x.p)
		}
	}
	for x := -5000; x <= 70000; x++ {
		if got, want := prio.Port(api.Port{Prio: x, No: 1}), x >= 0 && x <= 240 && x%16 == 0; got != want {
			t.Errorf("Port with Prio %d = %v", x, got)
		}
		if got, want := prio.Port(api.Port{Prio: 16, No: x}), x >= 1 && x <= 4095; got != want {
			t.Errorf("Port with No %d = %v", x, got)
		}
	}
	for _, p := range wrongPorts() {
		if prio.Port(p) {
			t.Errorf("Port(%v) = true", p)
		}
	}
}

// 8.1 and 8.2: the bytes and the texts of bridges, in both directions; among them is the example.
func TestBridges(t *testing.T) {
	for _, x := range bridges {
		want := bytesOf(x.digits)
		s, err := prio.Pack(x.b)
		is(t, "Pack of "+x.text, s, err, want)
		r := wire.New(want, 0)
		b := prio.Read(r)
		is(t, "Read of "+x.digits, b, r.Err(), x.b)
		s, err = prio.Text(x.b)
		is(t, "Text of "+x.digits, s, err, x.text)
		b, err = prio.Parse(x.text)
		is(t, "Parse of "+x.text, b, err, x.b)
	}
}

// 8.1: the bytes of ports, in both directions.
func TestPorts(t *testing.T) {
	for _, x := range ports {
		want := bytesOf(x.digits)
		s, err := prio.PackPort(x.p)
		is(t, "PackPort", s, err, want)
		r := wire.New(want, 0)
		p := prio.ReadPort(r)
		is(t, "ReadPort of "+x.digits, p, r.Err(), x.p)
	}
}

// 8.1 and 8.2: what is not valid has neither bytes nor a text; the error has no place.
func TestWrong(t *testing.T) {
	for _, b := range wrongBridges() {
		s, err := prio.Pack(b)
		fails(t, "Pack", s, err, api.ErrArg, none)
		s, err = prio.Text(b)
		fails(t, "Text", s, err, api.ErrArg, none)
	}
	for _, p := range wrongPorts() {
		s, err := prio.PackPort(p)
		fails(t, "PackPort", s, err, api.ErrArg, none)
	}
}

// 8.1, 8.2 and property 1: every number is read as one bridge's, whose bytes and text are its own.
func TestEveryBridge(t *testing.T) {
	addr := api.Addr{0xff, 0, 1, 2, 3, 0x80}
	for n := range 1 << 16 {
		s := string([]byte{byte(n >> 8), byte(n)}) + string(addr[:])
		r := wire.New(s, 0)
		b := prio.Read(r)
		is(t, "Read", b, r.Err(), api.Bridge{Prio: n / 4096 * 4096, Ext: n % 4096, Addr: addr})
		if !prio.Right(b) {
			t.Errorf("Right(%v) = false, of what is read", b)
		}
		again, err := prio.Pack(b)
		is(t, "Pack", again, err, s)
		text, err := prio.Text(b)
		is(t, "Text", text, err, strconv.Itoa(n&0xf000)+"."+strconv.Itoa(n&0xfff)+"/ff:00:01:02:03:80")
		back, err := prio.Parse(text)
		is(t, "Parse of "+text, back, err, b)
	}
}

// 8.1 and property 1: every number is read as one port's, whose bytes are its own, unless No would be 0.
func TestEveryPort(t *testing.T) {
	for n := range 1 << 16 {
		s := string([]byte{byte(n >> 8), byte(n)})
		r := wire.New(s, 100)
		p := prio.ReadPort(r)
		if n%4096 == 0 {
			fails(t, "ReadPort", p, r.Err(), api.ErrRange, 100)
			continue
		}
		is(t, "ReadPort", p, r.Err(), api.Port{Prio: n >> 12 * 16, No: n & 4095})
		if !prio.Port(p) {
			t.Errorf("Port(%v) = false, of what is read", p)
		}
		again, err := prio.PackPort(p)
		is(t, "PackPort", again, err, s)
	}
}

// 8.1: Read and ReadPort read what comes next, so many bytes of it, and leave the others.
func TestReadNext(t *testing.T) {
	r := wire.New(bytesOf("ff 8005 000100000000 8002 ffff deadbeef000a 0001 f000"), 1000)
	r.Bytes(1)
	for i, x := range []struct {
		b  api.Bridge
		p  api.Port
		at int
	}{
		{api.Bridge{Prio: 32768, Ext: 5, Addr: api.Addr{0, 1}}, api.Port{Prio: 128, No: 2}, 1001},
		{api.Bridge{Prio: 61440, Ext: 4095, Addr: api.Addr{0xde, 0xad, 0xbe, 0xef, 0, 0x0a}}, api.Port{No: 1}, 1011},
	} {
		b := prio.Read(r)
		is(t, "Read, number "+strconv.Itoa(i), b, r.Err(), x.b)
		if r.At() != x.at+8 {
			t.Errorf("after Read: at %d, want %d", r.At(), x.at+8)
		}
		p := prio.ReadPort(r)
		is(t, "ReadPort, number "+strconv.Itoa(i), p, r.Err(), x.p)
		if r.At() != x.at+10 {
			t.Errorf("after ReadPort: at %d, want %d", r.At(), x.at+10)
		}
	}
	fails(t, "ReadPort", prio.ReadPort(r), r.Err(), api.ErrRange, 1021)
}

// 8.1 and P3: a bridge is read as a number and an address, each missed at its first byte.
func TestReadMissing(t *testing.T) {
	for _, x := range bridges {
		s := bytesOf(x.digits)
		for n := range len(s) {
			place := 0
			if n >= 2 {
				place = 2
			}
			for _, off := range []int{0, 14, 1 << 40} {
				r := wire.New(s[:n], off)
				fails(t, "Read", prio.Read(r), r.Err(), api.ErrMissing, off+place)
			}
		}
	}
}

// 8.1 and P3: a port is missed at its first byte, before its No is looked at.
func TestReadPortMissing(t *testing.T) {
	for _, s := range []string{"", "\x00", "\x10", "\x01", "\xff"} {
		for _, off := range []int{0, 14, 1 << 40} {
			r := wire.New(s, off)
			fails(t, "ReadPort", prio.ReadPort(r), r.Err(), api.ErrMissing, off)
		}
	}
}

// 8.1 and 1.2: the first error stays, and nothing is read after it.
func TestReadAfterError(t *testing.T) {
	for _, s := range []string{"", "\x00\x00", bytesOf("8005 000100000000"), bytesOf("f000 000100000000 8002")} {
		r := wire.New(s, 7)
		r.Fail(api.ErrCycle, 3)
		fails(t, "Read", prio.Read(r), r.Err(), api.ErrCycle, 3)
		fails(t, "ReadPort", prio.ReadPort(r), r.Err(), api.ErrCycle, 3)
		if r.At() != 7 || r.Left() != len(s) {
			t.Errorf("at %d with %d left, after an error", r.At(), r.Left())
		}
	}
	r := wire.New(bytesOf("0000 8005 000100000000"), 0)
	prio.ReadPort(r)
	fails(t, "Read after ReadPort", prio.Read(r), r.Err(), api.ErrRange, 0)
}

// 8.2 and P5: what is no bridge's text is ErrForm.
func TestParseRefuses(t *testing.T) {
	const addr = "/00:01:00:00:00:00"
	for _, s := range []string{
		"", ".", "/", "./", addr, "." + addr, "0" + addr, "0." + addr, ".0" + addr, "0.0", "0.0/", "0.0/0", "0/0" + addr, "0.0.0" + addr, "0..0" + addr, "0.0/" + addr, "0.0" + addr + "/",
		"1.0" + addr, "4095.0" + addr, "4097.0" + addr, "32773.0" + addr, "61441.0" + addr, "65535.0" + addr, "65536.0" + addr, "-4096.0" + addr, "-1.0" + addr,
		"0.4096" + addr, "0.65535" + addr, "0.-1" + addr, "4096.-4096" + addr, "32768.4096" + addr,
		"00.0" + addr, "0.00" + addr, "04096.0" + addr, "4096.05" + addr, "+4096.0" + addr, "4096.+5" + addr, "-0.0" + addr, "0.-0" + addr, "+0.0" + addr,
		"4_096.0" + addr, "0x1000.0" + addr, "1e3.0" + addr, "8000.0" + addr, "4096,0" + addr, "0.a" + addr,
		" 0.0" + addr, "0.0" + addr + " ", "0 .0" + addr, "0. 0" + addr, "0.0 " + addr, "0.0/ 00:01:00:00:00:00", "0.0" + addr + "\n", "0.0" + addr + "\x00", "\x000.0" + addr,
		"0.0/00:01:00:00:00", "0.0" + addr + ":00", "0.0/00:01:00:00:00:0", "0.0/000100000000", "0.0/00-01-00-00-00-00", "0.0/00:01:00:00:00:0A", "0.0/00:01:00:00:00:0g", "0.0\\00:01:00:00:00:00",
		"18446744073709551616.0" + addr, "18446744073709555712.0" + addr, "0.18446744073709551621" + addr, "-18446744073709551616.0" + addr, "9223372036854775807.0" + addr,
		"０.0" + addr, "0.０" + addr, "é.0" + addr,
		strings.Repeat("9", 10000) + ".0" + addr, strings.Repeat("0", 10000) + ".0" + addr, "0." + strings.Repeat("0", 10000) + "5" + addr, "0.0" + strings.Repeat(addr, 10000),
	} {
		b, err := prio.Parse(s)
		fails(t, "Parse of "+strconv.Quote(s), b, err, api.ErrForm, none)
	}
}

// wellFormed says whether a text is a bridge's, by looking at each of its characters.
func wellFormed(s string) bool {
	head, addr, ok := strings.Cut(s, "/")
	first, second, two := strings.Cut(head, ".")
	if !ok || !two || len(addr) != 17 {
		return false
	}
	for i, c := range []byte(addr) {
		if i%3 == 2 && c != ':' || i%3 != 2 && !strings.Contains("0123456789abcdef", string(rune(c))) {
			return false
		}
	}
	number := func(s string, step, most int) bool {
		x, err := strconv.Atoi(s)
		return err == nil && s == strconv.Itoa(x) && x >= 0 && x <= most && x%step == 0
	}
	return number(first, 4096, 61440) && number(second, 1, 4095)
}

// 8.2: whatever one byte is added to a text, taken from it, or put in another's place: it is refused, or its bridge has this text.
func TestParseOfEveryChange(t *testing.T) {
	check := func(s string) {
		b, err := prio.Parse(s)
		if !wellFormed(s) {
			fails(t, "Parse of "+strconv.Quote(s), b, err, api.ErrForm, none)
			return
		}
		text, again := prio.Text(b)
		if err != nil || again != nil || text != s || !prio.Right(b) {
			t.Errorf("Parse(%q) = %v, %v, whose text is %q", s, b, err, text)
		}
	}
	for _, x := range bridges {
		for i := range len(x.text) + 1 {
			head, tail := x.text[:i], x.text[i:]
			for c := range 256 {
				b := string([]byte{byte(c)})
				check(head + b + tail)
				if tail != "" {
					check(head + b + tail[1:])
				}
			}
			if tail != "" {
				check(head + tail[1:])
			}
		}
	}
}

// rising are identifiers of bridges, those that are not valid included, in their order.
var rising = []api.Bridge{
	{Prio: math.MinInt, Ext: math.MaxInt, Addr: api.Addr{255}},
	{Prio: -1, Ext: math.MinInt},
	{Prio: -1, Ext: 7, Addr: api.Addr{255, 255, 255, 255, 255, 255}},
	{Prio: 0, Ext: math.MinInt, Addr: api.Addr{9}},
	{Prio: 0, Ext: -1, Addr: api.Addr{9}},
	{},
	{Addr: api.Addr{0, 0, 0, 0, 0, 1}},
	{Addr: api.Addr{0, 0, 0, 0, 0, 0x80}},
	{Addr: api.Addr{0, 0, 0, 0, 1, 0}},
	{Addr: api.Addr{0x7f, 255}},
	{Addr: api.Addr{0x80}},
	{Addr: api.Addr{255, 255, 255, 255, 255, 255}},
	{Ext: 1},
	{Ext: 1, Addr: api.Addr{1}},
	{Ext: 4095, Addr: api.Addr{1}},
	{Ext: 5000},
	{Ext: math.MaxInt, Addr: api.Addr{255}},
	{Prio: 1},
	{Prio: 4096},
	{Prio: 4096, Ext: 4095},
	{Prio: 8192, Ext: -3},
	{Prio: 61440, Ext: 4095, Addr: api.Addr{255}},
	{Prio: math.MaxInt, Ext: math.MinInt},
	{Prio: math.MaxInt, Ext: math.MaxInt},
}

// 8.3 and property 4: Prio decides, then Ext, then Addr, whatever the numbers; none is less than itself.
func TestLess(t *testing.T) {
	for i, a := range rising {
		for j, b := range rising {
			if got := prio.Less(a, b); got != (i < j) {
				t.Errorf("Less(%v, %v) = %v", a, b, got)
			}
		}
	}
}

// 8.3: valid identifiers are ordered as their bytes are.
func TestLessAsBytes(t *testing.T) {
	for _, a := range bridges {
		for _, b := range bridges {
			if got, want := prio.Less(a.b, b.b), a.digits < b.digits; got != want {
				t.Errorf("Less(%s, %s) = %v", a.text, b.text, got)
			}
		}
	}
}

// 8.3: each field of a vector decides where those ahead of it are the same, and outweighs those behind it.
func TestBetterByField(t *testing.T) {
	low, high := api.Bridge{Ext: 1}, api.Bridge{Ext: 2}
	port, later := api.Port{Prio: 16, No: 9}, api.Port{Prio: 32, No: 1}
	least := api.Vector{Root: low, Cost: 1, Sender: low, Port: port, At: port}
	raise := []func(v *api.Vector){
		func(v *api.Vector) { v.Root = high },
		func(v *api.Vector) { v.Cost = 2 },
		func(v *api.Vector) { v.Sender = high },
		func(v *api.Vector) { v.Port = later },
		func(v *api.Vector) { v.At = later },
	}
	for i := range raise {
		a, b := least, least
		raise[i](&b)
		// All that comes behind is worse in what is better.
		for _, f := range raise[i+1:] {
			f(&a)
		}
		if !prio.Better(a, b) || prio.Better(b, a) {
			t.Errorf("field %d: %v should be better than %v", i, a, b)
		}
		c := least
		raise[i](&c)
		if !prio.Better(least, c) || prio.Better(c, least) || prio.Better(c, c) {
			t.Errorf("field %d alone: %v should be better than %v", i, least, c)
		}
	}
}

// 8.3: within a vector, bridges are ordered as Less tells.
func TestBetterByBridges(t *testing.T) {
	for i, a := range rising {
		for j, b := range rising {
			if got := prio.Better(api.Vector{Root: a, Cost: 9}, api.Vector{Root: b, Cost: 9}); got != (i < j) {
				t.Errorf("Better with the roots %v, %v = %v", a, b, got)
			}
			if got := prio.Better(api.Vector{Cost: 9, Sender: a}, api.Vector{Cost: 9, Sender: b}); got != (i < j) {
				t.Errorf("Better with the senders %v, %v = %v", a, b, got)
			}
		}
	}
}

// 8.3: ports are ordered by Prio, then No, and costs as numbers, whatever the numbers.
func TestBetterByNumbers(t *testing.T) {
	l := []int{math.MinInt, math.MinInt + 1, -4096, -1, 0, 1, 16, 4095, 4096, 1 << 32, math.MaxInt - 1, math.MaxInt}
	var rising []api.Port
	for _, p := range l {
		for _, n := range l {
			rising = append(rising, api.Port{Prio: p, No: n})
		}
	}
	for i, a := range rising {
		for j, b := range rising {
			if got := prio.Better(api.Vector{Port: a}, api.Vector{Port: b}); got != (i < j) {
				t.Errorf("Better with the ports %v, %v = %v", a, b, got)
			}
			if got := prio.Better(api.Vector{At: a}, api.Vector{At: b}); got != (i < j) {
				t.Errorf("Better with the ports %v, %v of arrival = %v", a, b, got)
			}
		}
	}
	for i, a := range l {
		for j, b := range l {
			if got := prio.Better(api.Vector{Cost: a}, api.Vector{Cost: b}); got != (i < j) {
				t.Errorf("Better with the costs %d, %d = %v", a, b, got)
			}
		}
	}
}

// vectors are many, of which each differs from the others in some fields.
func vectors() []api.Vector {
	var l []api.Vector
	for n := range 128 {
		bit := func(i int) int { return n >> i & 1 }
		l = append(l, api.Vector{
			Root: api.Bridge{Ext: bit(0)}, Cost: bit(1) - 1,
			Sender: api.Bridge{Prio: bit(2), Addr: api.Addr{5: byte(bit(3))}},
			Port:   api.Port{Prio: bit(4), No: bit(5)}, At: api.Port{No: bit(6)},
		})
	}
	return l
}

// Property 4: of two different vectors one is better, and what is better than a better one is better, too.
func TestBetterIsTotal(t *testing.T) {
	l := vectors()
	slices.SortFunc(l, func(a, b api.Vector) int {
		if prio.Better(a, b) {
			return -1
		}
		return 1
	})
	for i, a := range l {
		for j, b := range l {
			if got := prio.Better(a, b); got != (i < j) {
				t.Errorf("Better(%v, %v) = %v", a, b, got)
			}
		}
	}
	if want := (api.Vector{Cost: -1}); l[0] != want {
		t.Errorf("the best is %v", l[0])
	}
}

// 8.3: the index of the best, of several alike the first.
func TestBest(t *testing.T) {
	v := func(cost, at int) api.Vector { return api.Vector{Cost: cost, At: api.Port{No: at}} }
	for _, x := range []struct {
		l    []api.Vector
		want int
	}{
		{nil, -1},
		{[]api.Vector{}, -1},
		{[]api.Vector{{}}, 0},
		{[]api.Vector{v(math.MaxInt, math.MaxInt)}, 0},
		{[]api.Vector{v(1, 1), v(2, 0)}, 0},
		{[]api.Vector{v(2, 0), v(1, 1)}, 1},
		{[]api.Vector{v(3, 1), v(1, 2), v(1, 1), v(2, 1)}, 2},
		{[]api.Vector{v(1, 1), v(1, 1), v(1, 1)}, 0},
		{[]api.Vector{v(2, 1), v(1, 1), v(1, 1)}, 1},
		{[]api.Vector{v(2, 1), v(1, 1), v(2, 1), v(1, 1), v(1, 0), v(1, 0)}, 4},
		{[]api.Vector{v(0, 0), v(-1, 0), v(math.MinInt, 5), v(math.MinInt, 5)}, 2},
		{slices.Repeat([]api.Vector{v(7, 7)}, 10000), 0},
	} {
		if got := prio.Best(x.l); got != x.want {
			t.Errorf("Best(%v) = %d, want %d", x.l, got, x.want)
		}
	}
}

// 8.3: none is better than the best, and those ahead of it are worse.
func TestBestOfMany(t *testing.T) {
	l := vectors()
	for from := range l {
		some := slices.Concat(l[from:], l[from:])
		best := prio.Best(some)
		for i, v := range some {
			if prio.Better(v, some[best]) || i < best && !prio.Better(some[best], v) {
				t.Errorf("from %d on: Best is %d, but there is %d", from, best, i)
			}
		}
	}
}

// P4: Best leaves the list, and the memory behind it, as it was.
func TestBestKeeps(t *testing.T) {
	memory := vectors()
	before := slices.Clone(memory)
	if prio.Best(memory[5:9]) != 3 {
		t.Error("Best: another answer")
	}
	if !slices.Equal(memory, before) {
		t.Error("Best changed the list")
	}
}
