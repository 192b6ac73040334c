package frame_test

import (
	"encoding/hex"
	"math"
	"slices"
	"strings"
	"testing"

	"switchyard/api"
	"switchyard/frame"
	"switchyard/plain"
)

// addrs are the two addresses that most frames here begin with.
const addrs = "010203040506 0a0b0c0d0e0f "

// bytesOf are those that digits tell; blanks are for the reader.
func bytesOf(digits string) string {
	b, err := hex.DecodeString(strings.ReplaceAll(digits, " ", ""))
	if err != nil {
		panic(digits)
	}
	return string(b)
}

// with is a frame with these two addresses.
func with(f api.Frame) api.Frame {
	f.Dst, f.Src = api.Addr{1, 2, 3, 4, 5, 6}, api.Addr{10, 11, 12, 13, 14, 15}
	return f
}

// tags are a service tag and a customer tag; each may stand alone, and both in this order.
var tags = []api.Tag{{S: true, Pcp: 6, Vid: 100}, {Pcp: 3, Dei: true, Vid: 5}}

// samples are frames, and their bytes.
var samples = []struct {
	f      api.Frame
	digits string
}{
	{with(api.Frame{Kind: api.Ether, Type: 0x0800}), addrs + "0800"},
	{with(api.Frame{Kind: api.Ether, Type: 1536, Body: "\x00\x01"}), addrs + "0600 0001"},
	{with(api.Frame{Kind: api.Ether, Type: 65535, Body: "abc\x00"}), addrs + "ffff 61626300"},
	{with(api.Frame{Kind: api.Ether, Type: 0x80ff, Body: "\x81\x00"}), addrs + "80ff 8100"},
	{with(api.Frame{Kind: api.Ether, Type: 0x8101}), addrs + "8101"},
	{with(api.Frame{Kind: api.Ether, Type: 0x88a7}), addrs + "88a7"},
	{with(api.Frame{Kind: api.Ether, Type: 0x88a9}), addrs + "88a9"},
	{with(api.Frame{Tags: tags[1:], Kind: api.Ether, Type: 0x0806, Body: "x"}), addrs + "8100 7005 0806 78"},
	{with(api.Frame{Tags: tags[:1], Kind: api.Ether, Type: 0x0806, Body: "x"}), addrs + "88a8 c064 0806 78"},
	{with(api.Frame{Tags: tags, Kind: api.Ether, Type: 0x0806, Body: "x"}), addrs + "88a8 c064 8100 7005 0806 78"},
	{with(api.Frame{Tags: []api.Tag{{}}, Kind: api.Ether, Type: 0x0806}), addrs + "8100 0000 0806"},
	{with(api.Frame{Tags: []api.Tag{{Pcp: 7, Dei: true, Vid: 4094}}, Kind: api.Ether, Type: 0x0806}), addrs + "8100 fffe 0806"},
	{with(api.Frame{Kind: api.Llc}), addrs + "0003 000000"},
	{with(api.Frame{Kind: api.Llc, Dsap: 0x42, Ssap: 0x42, Ctl: 3, Body: "\x00\x00"}), addrs + "0005 424203 0000"},
	{with(api.Frame{Kind: api.Llc, Dsap: 255, Ssap: 255, Ctl: 255, Body: "x"}), addrs + "0004 ffffff 78"},
	{with(api.Frame{Kind: api.Llc, Dsap: 0xaa, Ssap: 0xaa, Ctl: 2}), addrs + "0003 aaaa02"},
	{with(api.Frame{Kind: api.Llc, Dsap: 0xaa, Ssap: 0xab, Ctl: 3}), addrs + "0003 aaab03"},
	{with(api.Frame{Kind: api.Llc, Dsap: 0xab, Ssap: 0xaa, Ctl: 3}), addrs + "0003 abaa03"},
	{with(api.Frame{Tags: tags[1:], Kind: api.Llc, Dsap: 1, Ssap: 2, Ctl: 3, Body: "abc"}), addrs + "8100 7005 0006 010203 616263"},
	{with(api.Frame{Kind: api.Snap}), addrs + "0008 aaaa03 000000 0000"},
	{with(api.Frame{Kind: api.Snap, Oui: 0x0080c2, Pid: 0x0102, Body: "xy"}), addrs + "000a aaaa03 0080c2 0102 7879"},
	{with(api.Frame{Kind: api.Snap, Oui: 1<<24 - 1, Pid: 1<<16 - 1}), addrs + "0008 aaaa03 ffffff ffff"},
	{with(api.Frame{Tags: tags, Kind: api.Snap, Oui: 1, Pid: 2, Body: "\xaa\xaa\x03"}), addrs + "88a8 c064 8100 7005 000b aaaa03 000001 0002 aaaa03"},
	{api.Frame{Kind: api.Ether, Type: 0x0800}, "000000000000 000000000000 0800"},
}

// long are valid frames with the longest Body, of each kind and number of tags.
func long() []api.Frame {
	var l []api.Frame
	for _, some := range [][]api.Tag{nil, tags[:1], tags[1:], tags} {
		l = append(l,
			with(api.Frame{Tags: some, Kind: api.Ether, Type: 0x0800, Body: strings.Repeat("e", 1986-4*len(some))}),
			with(api.Frame{Tags: some, Kind: api.Llc, Dsap: 1, Body: strings.Repeat("l", 1497)}),
			with(api.Frame{Tags: some, Kind: api.Snap, Oui: 1, Body: strings.Repeat("s", 1492)}))
	}
	return l
}

// wrong are frames that may not be.
func wrong() []api.Frame {
	var l []api.Frame
	for _, f := range long() {
		f.Body += "x"
		l = append(l, f)
	}
	ether := with(api.Frame{Kind: api.Ether, Type: 0x0800})
	llc := with(api.Frame{Kind: api.Llc, Dsap: 1, Ssap: 2, Ctl: 3})
	snap := with(api.Frame{Kind: api.Snap, Oui: 1, Pid: 2})
	add := func(f api.Frame, change func(*api.Frame)) {
		change(&f)
		l = append(l, f)
	}
	for _, x := range []int{math.MinInt, -1 << 40, -1, 0, 1, 3, 1500, 1535, 0x8100, 0x88a8, 65536, 65536 + 0x0800, math.MaxInt} {
		add(ether, func(f *api.Frame) { f.Type = x })
	}
	for _, x := range []int{math.MinInt, -256, -1, 256, 256 + 3, math.MaxInt} {
		add(llc, func(f *api.Frame) { f.Dsap = x })
		add(llc, func(f *api.Frame) { f.Ssap = x })
		add(llc, func(f *api.Frame) { f.Ctl = x })
	}
	add(llc, func(f *api.Frame) { f.Dsap, f.Ssap = 0xaa, 0xaa })
	for _, x := range []int{math.MinInt, -1, math.MaxInt} {
		add(snap, func(f *api.Frame) { f.Oui = x })
		add(snap, func(f *api.Frame) { f.Pid = x })
	}
	add(snap, func(f *api.Frame) { f.Oui = 1 << 24 })
	add(snap, func(f *api.Frame) { f.Pid = 1 << 16 })
	for _, x := range []int{math.MinInt, -1, 1, 3, 0x0800, math.MaxInt} {
		for _, f := range []api.Frame{llc, snap} {
			add(f, func(f *api.Frame) { f.Type = x })
		}
		for _, f := range []api.Frame{ether, snap} {
			add(f, func(f *api.Frame) { f.Dsap = x })
			add(f, func(f *api.Frame) { f.Ssap = x })
			add(f, func(f *api.Frame) { f.Ctl = x })
		}
		for _, f := range []api.Frame{ether, llc} {
			add(f, func(f *api.Frame) { f.Oui = x })
			add(f, func(f *api.Frame) { f.Pid = x })
		}
	}
	s, c := tags[0], tags[1]
	for _, some := range [][]api.Tag{{c, s}, {c, c}, {s, s}, {s, c, c}, {s, s, c}, {{Vid: 4095}}, {{Vid: -1}}, {{Pcp: 8}}, {s, {Vid: 4095}}, {{S: true, Pcp: -1}, c}, slices.Repeat([]api.Tag{s}, 500)} {
		for _, f := range []api.Frame{ether, llc, snap} {
			add(f, func(f *api.Frame) { f.Tags = some })
		}
	}
	for _, kind := range []int{math.MinInt, -1, 0, 4, 5, 256, math.MaxInt} {
		for _, f := range []api.Frame{{}, ether, llc, snap} {
			add(f, func(f *api.Frame) { f.Kind = kind })
		}
	}
	return l
}

// isNothing says whether a frame is the zero value.
func isNothing(f api.Frame) bool { return f.Tags == nil && frame.Same(f, api.Frame{}) }

// reads asks Read for a frame.
func reads(t *testing.T, s string, want api.Frame) {
	t.Helper()
	f, err := frame.Read(s)
	if err != nil || !frame.Same(f, want) {
		t.Errorf("Read(%.99x) = %.99v, %v, want %.99v", s, f, err, want)
	}
}

// refuses asks Read for an error with its place, and for no frame.
func refuses(t *testing.T, s string, want api.Errno, place int) {
	t.Helper()
	f, err := frame.Read(s)
	if e, at := plain.Place(err); e != want || at != place {
		t.Errorf("Read(%.99x): error %d at %d, want %d at %d", s, e, at, want, place)
	}
	if !isNothing(f) {
		t.Errorf("Read(%.99x) = %.99v with an error", s, f)
	}
}

// 5.1: the header's length, of frames that may not be, too.
func TestHead(t *testing.T) {
	for kind, own := range map[int]int{api.Ether: 0, api.Llc: 3, api.Snap: 8, 0: 0, 4: 0, -1: 0, math.MaxInt: 0, math.MinInt: 0} {
		for n := range 5 {
			f := api.Frame{Kind: kind, Tags: make([]api.Tag, n), Body: "body"}
			if got := frame.Head(f); got != 14+4*n+own {
				t.Errorf("Head of kind %d with %d tags = %d, want %d", kind, n, got, 14+4*n+own)
			}
		}
	}
}

// 5.1: frames that may be.
func TestRight(t *testing.T) {
	for _, x := range samples {
		if !frame.Right(x.f) {
			t.Errorf("Right(%v) = false", x.f)
		}
	}
	for _, f := range long() {
		if !frame.Right(f) {
			t.Errorf("Right(%.99v) = false", f)
		}
	}
}

// 5.1 and 5.2: frames that may not be, which Write refuses without a place.
func TestWrong(t *testing.T) {
	for _, f := range wrong() {
		if frame.Right(f) {
			t.Errorf("Right(%.99v) = true", f)
		}
		s, err := frame.Write(f)
		if e, at := plain.Place(err); e != api.ErrArg || at != -1 || s != "" {
			t.Errorf("Write(%.99v) = %.99x, error %d at %d", f, s, e, at)
		}
	}
}

// 5.1: of all types, and of all Llc headers with one of the bytes aa, those of tags, and of Snap, are excluded.
func TestRightOfEvery(t *testing.T) {
	for n := range 1<<16 + 2 {
		want := n >= 1536 && n <= 65535 && n != 0x8100 && n != 0x88a8
		if got := frame.Right(api.Frame{Kind: api.Ether, Type: n}); got != want {
			t.Fatalf("Right of the type %x = %v", n, got)
		}
	}
	for n := range 1 << 16 {
		hi, lo := n>>8, n&255
		for i, h := range [][3]int{{0xaa, hi, lo}, {hi, 0xaa, lo}, {hi, lo, 3}} {
			want := h != [3]int{0xaa, 0xaa, 3}
			if got := frame.Right(api.Frame{Kind: api.Llc, Dsap: h[0], Ssap: h[1], Ctl: h[2]}); got != want {
				t.Fatalf("Right of header %d, %x = %v", i, h, got)
			}
		}
	}
}

// 5.2 and 5.3: the bytes of frames, in both directions.
func TestSamples(t *testing.T) {
	for _, x := range samples {
		want := bytesOf(x.digits)
		s, err := frame.Write(x.f)
		if s != want || err != nil {
			t.Errorf("Write(%v) = %x, %v, want %x", x.f, s, err, want)
		}
		reads(t, want, x.f)
		if n := frame.Head(x.f) + len(x.f.Body); n != len(want) {
			t.Errorf("Head and Body of %v have %d bytes, want %d", x.f, n, len(want))
		}
	}
}

// 5.2 and 5.3: the longest frames.
func TestLong(t *testing.T) {
	for _, f := range long() {
		s, err := frame.Write(f)
		if err != nil || len(s) != frame.Head(f)+len(f.Body) || !strings.HasSuffix(s, f.Body) {
			t.Errorf("Write(%.99v): %d bytes, %v", f, len(s), err)
		}
		reads(t, s, f)
	}
}

// 5.2: Pad fills up to MinFrame bytes, and no further.
func TestPad(t *testing.T) {
	for _, n := range []int{0, 1, 14, 58, 59, 60, 61, 1500, 2000, 2001, 5000} {
		s := strings.Repeat("p", n)
		want := s + strings.Repeat("\x00", max(0, 60-n))
		if got := frame.Pad(s); got != want {
			t.Errorf("Pad of %d bytes = %.99x", n, got)
		}
	}
}

// 5.3: padding does not belong to an Llc or Snap frame, whatever its length; to an Ether frame it does.
func TestReadPadded(t *testing.T) {
	for _, x := range samples {
		for _, more := range []int{0, 1, 2, 46, 100} {
			zeros := strings.Repeat("\x00", more)
			f := x.f
			if f.Kind == api.Ether {
				f.Body += zeros
			}
			reads(t, bytesOf(x.digits)+zeros, f)
		}
	}
	for _, f := range long() {
		if f.Kind != api.Ether {
			s, _ := frame.Write(f)
			reads(t, s+strings.Repeat("\x00", 2000-len(s)), f)
		}
	}
}

// 5.3: each error, and its place.
func TestReadErrors(t *testing.T) {
	for _, c := range []struct {
		digits string
		want   api.Errno
		place  int
	}{
		// What is not there: an address, a type, a tag's number.
		{"", api.ErrMissing, 0},
		{"01", api.ErrMissing, 0},
		{"0102030405", api.ErrMissing, 0},
		{"010203040506", api.ErrMissing, 6},
		{"010203040506 0a0b0c0d0e", api.ErrMissing, 6},
		{addrs, api.ErrMissing, 12},
		{addrs + "08", api.ErrMissing, 12},
		{addrs + "81", api.ErrMissing, 12},
		{addrs + "8100", api.ErrMissing, 14},
		{addrs + "8100 70", api.ErrMissing, 14},
		{addrs + "8100 7005", api.ErrMissing, 16},
		{addrs + "8100 7005 08", api.ErrMissing, 16},
		{addrs + "88a8 c064", api.ErrMissing, 16},
		{addrs + "88a8 c064 8100", api.ErrMissing, 18},
		{addrs + "88a8 c064 8100 70", api.ErrMissing, 18},
		{addrs + "88a8 c064 8100 7005", api.ErrMissing, 20},
		{addrs + "88a8 c064 8100 7005 08", api.ErrMissing, 20},
		{addrs + "8100 7005 8100", api.ErrMissing, 18},
		{addrs + "8100 7005 8100 0f", api.ErrMissing, 18},
		{addrs + "88a8 c064 8100 7005 8100", api.ErrMissing, 22},
		// A VID of 4095.
		{addrs + "8100 0fff 0800", api.ErrForm, 14},
		{addrs + "8100 ffff", api.ErrForm, 14},
		{addrs + "88a8 1fff 8100 7005 0800", api.ErrForm, 14},
		{addrs + "88a8 c064 8100 0fff 0800", api.ErrForm, 18},
		// Tags that are not allowed; the VID comes first.
		{addrs + "8100 7005 8100 7005 0800", api.ErrOrder, 16},
		{addrs + "8100 7005 88a8 c064 0800", api.ErrOrder, 16},
		{addrs + "88a8 c064 88a8 c064 0800", api.ErrOrder, 16},
		{addrs + "8100 7005 8100 0000", api.ErrOrder, 16},
		{addrs + "8100 7005 8100 0fff 0800", api.ErrForm, 18},
		{addrs + "8100 0fff 8100 0fff 0800", api.ErrForm, 14},
		{addrs + "88a8 c064 8100 7005 8100 7005 0800", api.ErrOrder, 20},
		{addrs + "88a8 c064 8100 7005 88a8 c064 0800", api.ErrOrder, 20},
		{addrs + "88a8 c064 8100 7005 8100 0fff 0800", api.ErrForm, 22},
		{addrs + "88a8 c064 88a8 c064 8100 0fff", api.ErrOrder, 16},
		// Between a length and a type.
		{addrs + "05dd", api.ErrRange, 12},
		{addrs + "05ff 00", api.ErrRange, 12},
		{addrs + "8100 7005 05dd 01", api.ErrRange, 16},
		{addrs + "88a8 c064 8100 7005 05ff", api.ErrRange, 20},
		// Fewer bytes than the inner length.
		{addrs + "0001", api.ErrMissing, 14},
		{addrs + "0003 4242", api.ErrMissing, 14},
		{addrs + "05dc 424203", api.ErrMissing, 14},
		{addrs + "0009 aaaa03 0080c2 0102", api.ErrMissing, 14},
		{addrs + "8100 7005 0004 424203", api.ErrMissing, 18},
		{addrs + "88a8 c064 8100 7005 0001", api.ErrMissing, 22},
		// An inner length without room for its header, whatever follows.
		{addrs + "0000", api.ErrMissing, 14},
		{addrs + "0000 424203", api.ErrMissing, 14},
		{addrs + "0000 01", api.ErrMissing, 14},
		{addrs + "0001 42", api.ErrMissing, 15},
		{addrs + "0001 42 4203", api.ErrMissing, 15},
		{addrs + "0002 4242 03", api.ErrMissing, 16},
		{addrs + "0002 aaaa 03 000000 0000", api.ErrMissing, 16},
		{addrs + "0003 aaaa03", api.ErrMissing, 17},
		{addrs + "0003 aaaa03 000000 0000", api.ErrMissing, 17},
		{addrs + "0004 aaaa03 00 0000 0000", api.ErrMissing, 17},
		{addrs + "0005 aaaa03 0000 00 0000", api.ErrMissing, 17},
		{addrs + "0006 aaaa03 000000 0000", api.ErrMissing, 20},
		{addrs + "0007 aaaa03 000000 00 00", api.ErrMissing, 20},
		{addrs + "8100 7005 0007 aaaa03 000000 00 01", api.ErrMissing, 24},
		// What follows the inner bytes.
		{addrs + "0003 424203 01", api.ErrSpoilt, 17},
		{addrs + "0003 424203 0000ff00", api.ErrSpoilt, 19},
		{addrs + "0003 424203 00000102", api.ErrSpoilt, 19},
		{addrs + "0004 424203 01 80", api.ErrSpoilt, 18},
		{addrs + "0008 aaaa03 000000 0000 0001", api.ErrSpoilt, 23},
		{addrs + "8100 7005 0003 424203 00 01", api.ErrSpoilt, 22},
	} {
		refuses(t, bytesOf(c.digits), c.want, c.place)
	}
}

// 5.3: a frame that is too long is told first, whatever is in it.
func TestReadLimit(t *testing.T) {
	for _, c := range []string{
		addrs + "0800", addrs + "05dd", addrs + "0000", addrs + "0003 424203", addrs + "0003 424203 01",
		addrs + "8100 0fff 0800", addrs + "8100 7005 8100 7005 0800",
	} {
		s := bytesOf(c)
		for _, n := range []int{2001, 2002, 9000} {
			refuses(t, s+strings.Repeat("\x00", n-len(s)), api.ErrLimit, 2000)
		}
	}
	s := bytesOf(addrs + "0800")
	body := strings.Repeat("\x01", 2000-len(s))
	reads(t, s+body, with(api.Frame{Kind: api.Ether, Type: 0x0800, Body: body}))
}

// 5.3: lengths from 3 to 1500 are inner lengths, the last one of padding, too.
func TestReadEveryLength(t *testing.T) {
	for n := range 1600 {
		s := bytesOf(addrs) + string([]byte{byte(n >> 8), byte(n)}) + strings.Repeat("\x00", 1986)
		switch {
		case n < 3:
			refuses(t, s, api.ErrMissing, 14+n)
		case n <= 1500:
			reads(t, s, with(api.Frame{Kind: api.Llc, Body: s[17 : 14+n]}))
		case n < 1536:
			refuses(t, s, api.ErrRange, 12)
		default:
			reads(t, s, with(api.Frame{Kind: api.Ether, Type: n, Body: s[14:]}))
		}
	}
}

// checkBytes asks of any bytes that they are a frame that is written as they are, up to padding, or refused at a place in them, or at their end.
func checkBytes(t *testing.T, s string) {
	t.Helper()
	f, err := frame.Read(s)
	if err != nil {
		e, at := plain.Place(err)
		refuses(t, s, e, at)
		if at < 0 || at > len(s) {
			t.Errorf("Read(%.99x): error %d at %d", s, e, at)
		}
		return
	}
	again, err := frame.Write(f)
	pad, ok := strings.CutPrefix(s, again)
	if err != nil || !frame.Right(f) || !ok || strings.Trim(pad, "\x00") != "" || f.Kind == api.Ether && pad != "" {
		t.Errorf("Read(%.99x) = %.99v, which is written as %.99x, %v", s, f, again, err)
	}
}

// 5.2, 5.3 and property 1: what is read is valid and is written in the same way again, after every change of one byte, too.
func TestEveryChange(t *testing.T) {
	for _, x := range samples {
		s := bytesOf(x.digits)
		for i := range len(s) + 1 {
			checkBytes(t, s[:i])
			checkBytes(t, s[:i]+"\x00"+s[i:])
			for c := range 256 {
				if i < len(s) {
					checkBytes(t, s[:i]+string([]byte{byte(c)})+s[i+1:])
				}
			}
		}
	}
}

// 5.3: every part of the bytes that a header needs is missed at its first byte.
func TestEveryCut(t *testing.T) {
	s := bytesOf(addrs + "88a8 c064 8100 7005 0008 aaaa03 0080c2 0102")
	for i := range len(s) {
		place := 0
		for _, first := range []int{0, 6, 12, 14, 16, 18, 20, 22} {
			if first <= i {
				place = first
			}
		}
		refuses(t, s[:i], api.ErrMissing, place)
	}
}

// 5.4: frames are the same if all fields are.
func TestSame(t *testing.T) {
	one := func() api.Frame {
		return api.Frame{Dst: api.Addr{1, 2, 3, 4, 5, 6}, Src: api.Addr{6, 5, 4, 3, 2, 1}, Tags: []api.Tag{{S: true, Pcp: 1, Dei: true, Vid: 2}, {Pcp: 3, Vid: 4}},
			Kind: 1, Type: 2, Dsap: 3, Ssap: 4, Ctl: 5, Oui: 6, Pid: 7, Body: "body"}
	}
	if !frame.Same(one(), one()) || !frame.Same(api.Frame{}, api.Frame{}) {
		t.Error("a frame is not the same as itself")
	}
	for i, change := range []func(*api.Frame){
		func(f *api.Frame) { f.Dst[0]++ },
		func(f *api.Frame) { f.Dst[5]++ },
		func(f *api.Frame) { f.Src[0]++ },
		func(f *api.Frame) { f.Src[5]++ },
		func(f *api.Frame) { f.Dst, f.Src = f.Src, f.Dst },
		func(f *api.Frame) { f.Tags = nil },
		func(f *api.Frame) { f.Tags = f.Tags[:1] },
		func(f *api.Frame) { f.Tags = f.Tags[1:] },
		func(f *api.Frame) { f.Tags = append(f.Tags, api.Tag{}) },
		func(f *api.Frame) { f.Tags[0], f.Tags[1] = f.Tags[1], f.Tags[0] },
		func(f *api.Frame) { f.Tags[0].S = false },
		func(f *api.Frame) { f.Tags[0].Pcp++ },
		func(f *api.Frame) { f.Tags[1].Dei = true },
		func(f *api.Frame) { f.Tags[1].Vid++ },
		func(f *api.Frame) { f.Kind++ },
		func(f *api.Frame) { f.Type++ },
		func(f *api.Frame) { f.Dsap++ },
		func(f *api.Frame) { f.Ssap++ },
		func(f *api.Frame) { f.Ctl++ },
		func(f *api.Frame) { f.Oui++ },
		func(f *api.Frame) { f.Pid++ },
		func(f *api.Frame) { f.Type, f.Pid = f.Pid, f.Type },
		func(f *api.Frame) { f.Dsap, f.Ssap = f.Ssap, f.Dsap },
		func(f *api.Frame) { f.Body = "" },
		func(f *api.Frame) { f.Body = "bodz" },
		func(f *api.Frame) { f.Body += "\x00" },
	} {
		f := one()
		change(&f)
		if frame.Same(one(), f) || frame.Same(f, one()) {
			t.Errorf("change %d: the same", i)
		}
		if !frame.Same(f, f) {
			t.Errorf("change %d: not the same as itself", i)
		}
	}
}

// P4: no tags are no tags, however they are told.
func TestNoTags(t *testing.T) {
	a := with(api.Frame{Kind: api.Ether, Type: 0x0800})
	b := a
	b.Tags = []api.Tag{}
	s, err := frame.Write(b)
	if !frame.Same(a, b) || !frame.Same(b, a) || !frame.Right(b) || s != bytesOf(addrs+"0800") || err != nil {
		t.Error("an empty list of tags is not as none")
	}
}

// P4: tags are left as they are, with the memory behind them, and those that are read are new.
func TestMemory(t *testing.T) {
	memory := append(slices.Clone(tags), api.Tag{Pcp: 9, Vid: 9999})
	before := slices.Clone(memory)
	f := with(api.Frame{Tags: memory[:2], Kind: api.Ether, Type: 0x0800})
	s, _ := frame.Write(f)
	frame.Right(f)
	frame.Head(f)
	frame.Same(f, f)
	if !slices.Equal(memory, before) {
		t.Errorf("the tags are %v now", memory)
	}
	one, _ := frame.Read(s)
	one.Tags[0], one.Tags[1] = api.Tag{}, api.Tag{}
	reads(t, s, f)
}

// 5.1, the example: an Ether frame with one tag.
func TestExample(t *testing.T) {
	if n := frame.Head(api.Frame{Kind: api.Ether, Tags: tags[1:]}); n != 18 {
		t.Errorf("Head = %d, want 18", n)
	}
}
