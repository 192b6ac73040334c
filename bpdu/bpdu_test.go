package bpdu_test

import (
	"encoding/hex"
	"math"
	"strings"
	"testing"

	"switchyard/api"
	"switchyard/bpdu"
	"switchyard/plain"
	"switchyard/wire"
)

// none is the place of an error that has none.
const none = -1

// bytesOf are those that digits tell; blanks are for the reader.
func bytesOf(digits string) string {
	b, err := hex.DecodeString(strings.ReplaceAll(digits, " ", ""))
	if err != nil {
		panic(digits)
	}
	return string(b)
}

// all is a message each of whose numbers has other bytes, and behind is its Body, the flags apart.
func all(kind int, f api.Flags) api.Bpdu {
	return api.Bpdu{
		Kind: kind, Flags: f,
		Root: api.Bridge{Prio: 32768, Ext: 5, Addr: api.Addr{0x11, 0x12, 0x13, 0x14, 0x15, 0x16}}, Cost: 0x21222324,
		Sender: api.Bridge{Prio: 4096, Ext: 0x234, Addr: api.Addr{0x31, 0x32, 0x33, 0x34, 0x35, 0x36}}, Port: api.Port{Prio: 128, No: 0x142},
		Age: 0x5152, Max: 0x6162, Hello: 0x7172, Wait: 0x8182,
	}
}

const behind = "8005 111213141516 21222324 1234 313233343536 8142 5152 6162 7172 8182"

// least has zeros, where they may be, and most the greatest numbers.
func least(kind int) api.Bpdu { return api.Bpdu{Kind: kind, Port: api.Port{No: 1}} }

func most(kind int, f api.Flags) api.Bpdu {
	name := api.Bridge{Prio: 61440, Ext: 4095, Addr: api.Addr{255, 255, 255, 255, 255, 255}}
	return api.Bpdu{
		Kind: kind, Flags: f, Root: name, Cost: 1<<32 - 1, Sender: name, Port: api.Port{Prio: 240, No: 4095},
		Age: 65535, Max: 65535, Hello: 65535, Wait: 65535,
	}
}

// samples are messages, and their bytes; the Notice is the example.
var samples = []struct {
	b      api.Bpdu
	digits string
}{
	{api.Bpdu{Kind: api.Notice}, "00000080"},
	{least(api.Config), "00000000 00" + strings.Repeat("00", 8+4+8) + "0001" + strings.Repeat("00", 8)},
	{least(api.Rapid), "00000202 00" + strings.Repeat("00", 8+4+8) + "0001" + strings.Repeat("00", 8) + "00"},
	{most(api.Config, api.Flags{Change: true, Ack: true}), "00000000 81" + strings.Repeat("ff", 30)},
	{most(api.Rapid, every(3)), "00000202 ff" + strings.Repeat("ff", 30) + "00"},
	{all(api.Config, api.Flags{}), "00000000 00" + behind},
	{all(api.Config, api.Flags{Change: true}), "00000000 01" + behind},
	{all(api.Config, api.Flags{Ack: true}), "00000000 80" + behind},
	{all(api.Rapid, api.Flags{}), "00000202 00" + behind + "00"},
	{all(api.Rapid, api.Flags{Change: true, Role: 2, Pass: true}), "00000202 29" + behind + "00"},
	{all(api.Rapid, api.Flags{Proposal: true, Role: 1, Learn: true, Agree: true, Ack: true}), "00000202 d6" + behind + "00"},
}

// every has all flags of one bit, and a role.
func every(role int) api.Flags {
	return api.Flags{Change: true, Proposal: true, Role: role, Learn: true, Pass: true, Agree: true, Ack: true}
}

// far are numbers that nothing in a message is.
var far = []int{math.MinInt, -1 << 32, -65536, -1, 1 << 32, 1<<32 + 1, 1 << 62, math.MaxInt}

// spoilt are messages, each a good one but for one field.
func spoilt(b api.Bpdu) []api.Bpdu {
	var l []api.Bpdu
	with := func(change func(b *api.Bpdu)) {
		other := b
		change(&other)
		l = append(l, other)
	}
	for _, x := range append([]int{1, 4095, 4097, 65536}, far...) {
		with(func(b *api.Bpdu) { b.Root.Prio = x })
		with(func(b *api.Bpdu) { b.Sender.Prio = x })
		with(func(b *api.Bpdu) { b.Port.Prio = x })
	}
	for _, x := range append([]int{4096, 65535, 65536}, far...) {
		with(func(b *api.Bpdu) { b.Root.Ext = x })
		with(func(b *api.Bpdu) { b.Sender.Ext = x })
		with(func(b *api.Bpdu) { b.Port.No = x })
	}
	with(func(b *api.Bpdu) { b.Port.No = 0 })
	for _, x := range far {
		with(func(b *api.Bpdu) { b.Cost = x })
	}
	for _, x := range append([]int{65536, 65537}, far...) {
		with(func(b *api.Bpdu) { b.Age = x })
		with(func(b *api.Bpdu) { b.Max = x })
		with(func(b *api.Bpdu) { b.Hello = x })
		with(func(b *api.Bpdu) { b.Wait = x })
	}
	return l
}

// wrong are messages that may not be.
func wrong() []api.Bpdu {
	l := append(spoilt(all(api.Config, api.Flags{Change: true})), spoilt(all(api.Rapid, every(1)))...)
	for _, kind := range []int{math.MinInt, -1, 0, 4, 5, 128, math.MaxInt} {
		l = append(l, api.Bpdu{Kind: kind}, least(kind), all(kind, api.Flags{}))
	}
	for _, x := range []int{math.MinInt, -4, -1, 4, 5, 8, math.MaxInt} {
		l = append(l, all(api.Rapid, api.Flags{Role: x}), all(api.Rapid, every(x)), all(api.Config, api.Flags{Role: x}))
	}
	for _, f := range []api.Flags{{Proposal: true}, {Role: 1}, {Role: 2}, {Role: 3}, {Learn: true}, {Pass: true}, {Agree: true}, every(0)} {
		l = append(l, all(api.Config, f))
	}
	for _, f := range []api.Flags{{Change: true}, {Proposal: true}, {Role: 1}, {Role: -1}, {Learn: true}, {Pass: true}, {Agree: true}, {Ack: true}} {
		l = append(l, api.Bpdu{Kind: api.Notice, Flags: f})
	}
	return append(l,
		api.Bpdu{Kind: api.Notice, Root: api.Bridge{Prio: 4096}}, api.Bpdu{Kind: api.Notice, Root: api.Bridge{Ext: 1}}, api.Bpdu{Kind: api.Notice, Root: api.Bridge{Addr: api.Addr{5: 1}}},
		api.Bpdu{Kind: api.Notice, Sender: api.Bridge{Prio: 4096}}, api.Bpdu{Kind: api.Notice, Sender: api.Bridge{Ext: 1}}, api.Bpdu{Kind: api.Notice, Sender: api.Bridge{Addr: api.Addr{1}}},
		api.Bpdu{Kind: api.Notice, Port: api.Port{No: 1}}, api.Bpdu{Kind: api.Notice, Port: api.Port{Prio: 16}}, api.Bpdu{Kind: api.Notice, Cost: 1}, api.Bpdu{Kind: api.Notice, Cost: -1},
		api.Bpdu{Kind: api.Notice, Age: 1}, api.Bpdu{Kind: api.Notice, Max: 1}, api.Bpdu{Kind: api.Notice, Hello: 1}, api.Bpdu{Kind: api.Notice, Wait: 1},
		all(api.Notice, api.Flags{}),
	)
}

// is asks for a message without an error.
func is(t *testing.T, what string, got api.Bpdu, err error, want api.Bpdu) {
	t.Helper()
	if got != want || err != nil {
		t.Errorf("%s: %+v, %v, want %+v", what, got, err, want)
	}
}

// reads asks Read for a message.
func reads(t *testing.T, s string, want api.Bpdu) {
	t.Helper()
	b, err := bpdu.Read(s)
	is(t, "Read of "+hex.EncodeToString([]byte(s)), b, err, want)
}

// refuses asks Read for an error with its place, and for no message with it.
func refuses(t *testing.T, s string, want api.Errno, place int) {
	t.Helper()
	b, err := bpdu.Read(s)
	if e, at := plain.Place(err); e != want || at != place {
		t.Errorf("Read(%x): error %d at %d, want %d at %d", s, e, at, want, place)
	}
	if b != (api.Bpdu{}) {
		t.Errorf("Read(%x) = %+v with an error", s, b)
	}
}

// 9.1: flags are valid by their Role alone.
func TestFlags(t *testing.T) {
	for _, x := range []int{math.MinInt, -1 << 32, -4, -3, -2, -1, 0, 1, 2, 3, 4, 5, 7, 8, 255, 1 << 32, math.MaxInt} {
		want := x == 0 || x == 1 || x == 2 || x == 3
		if got := bpdu.Flags(api.Flags{Role: x}); got != want {
			t.Errorf("Flags with Role %d alone = %v", x, got)
		}
		if got := bpdu.Flags(every(x)); got != want {
			t.Errorf("Flags with all and Role %d = %v", x, got)
		}
	}
}

// bits are the flags that each bit is, from the lowest one on.
var bits = []api.Flags{{Change: true}, {Proposal: true}, {Role: 1}, {Role: 2}, {Learn: true}, {Pass: true}, {Agree: true}, {Ack: true}}

// 9.1: each bit is its own flag.
func TestEachBit(t *testing.T) {
	for i, f := range bits {
		n := 1 << i
		if got := bpdu.Byte(f); got != n {
			t.Errorf("Byte(%+v) = %d, want %d", f, got, n)
		}
		if got := bpdu.Of(n); got != f {
			t.Errorf("Of(%d) = %+v, want %+v", n, got, f)
		}
	}
}

// flagsOf are those of a byte, by what the bits are.
func flagsOf(n int) (f api.Flags) {
	for i, x := range bits {
		if n>>i&1 == 0 {
			continue
		}
		f.Change, f.Proposal = f.Change || x.Change, f.Proposal || x.Proposal
		f.Role += x.Role
		f.Learn, f.Pass = f.Learn || x.Learn, f.Pass || x.Pass
		f.Agree, f.Ack = f.Agree || x.Agree, f.Ack || x.Ack
	}
	return f
}

// 9.1: every byte is that of its flags, which are valid.
func TestEveryByte(t *testing.T) {
	for n := range 256 {
		f := bpdu.Of(n)
		if f != flagsOf(n) || !bpdu.Flags(f) {
			t.Errorf("Of(%d) = %+v, want %+v", n, f, flagsOf(n))
		}
		if got := bpdu.Byte(f); got != n {
			t.Errorf("Byte(%+v) = %d, want %d", f, got, n)
		}
	}
}

// 9.1: messages that may be.
func TestRight(t *testing.T) {
	for _, x := range samples {
		if !bpdu.Right(x.b) {
			t.Errorf("Right(%+v) = false", x.b)
		}
	}
	for n := range 256 {
		f := flagsOf(n)
		if !bpdu.Right(all(api.Rapid, f)) {
			t.Errorf("Right of a Rapid message with %+v = false", f)
		}
		if got, want := bpdu.Right(all(api.Config, f)), n&0x7e == 0; got != want {
			t.Errorf("Right of a Config message with %+v = %v", f, got)
		}
		if got, want := bpdu.Right(api.Bpdu{Kind: api.Notice, Flags: f}), n == 0; got != want {
			t.Errorf("Right of a Notice with %+v = %v", f, got)
		}
	}
}

// 9.1 and 9.2: messages that may not be, which Write refuses without a place.
func TestWrong(t *testing.T) {
	for _, b := range wrong() {
		if bpdu.Right(b) {
			t.Errorf("Right(%+v) = true", b)
		}
		s, err := bpdu.Write(b)
		if e, at := plain.Place(err); e != api.ErrArg || at != none || s != "" {
			t.Errorf("Write(%+v) = %x, error %d at %d, want ErrArg without a place", b, s, e, at)
		}
	}
}

// 9.2, 9.3 and property 1: the bytes of messages, in both directions.
func TestSamples(t *testing.T) {
	for _, x := range samples {
		want := bytesOf(x.digits)
		if s, err := bpdu.Write(x.b); s != want || err != nil {
			t.Errorf("Write(%+v) = %x, %v, want %x", x.b, s, err, want)
		}
		reads(t, want, x.b)
	}
}

// bodySize is how many bytes a Body has.
const bodySize = 31

// 9.2: Body is what stands behind the first four bytes, and is read back, up to its end.
func TestBody(t *testing.T) {
	for _, x := range samples {
		if x.b.Kind == api.Notice {
			continue
		}
		want := bytesOf(x.digits)[4:][:bodySize]
		if s := bpdu.Body(x.b); s != want {
			t.Errorf("Body(%+v) = %x, want %x", x.b, s, want)
		}
		for _, off := range []int{0, 17, 1 << 40} {
			r := wire.New("\xff\xff"+want+"\x01\x02\x03", off)
			r.Bytes(2)
			b := bpdu.ReadBody(r, x.b.Kind)
			is(t, "ReadBody", b, r.Err(), x.b)
			if r.At() != off+2+bodySize || r.Left() != 3 {
				t.Errorf("after ReadBody: at %d with %d left, want at %d with 3 left", r.At(), r.Left(), off+2+bodySize)
			}
		}
	}
}

// 9.2 and 9.3: of the same Body, a Rapid message has all flags, and a Config message Change and Ack.
func TestReadEveryFlags(t *testing.T) {
	for n := range 256 {
		rapid, config := flagsOf(n), flagsOf(n&0x81)
		body := string([]byte{byte(n)}) + bytesOf(behind)
		reads(t, "\x00\x00\x02\x02"+body+"\x00", all(api.Rapid, rapid))
		reads(t, "\x00\x00\x00\x00"+body, all(api.Config, config))
		r := wire.New(body, 0)
		b := bpdu.ReadBody(r, api.Rapid)
		is(t, "ReadBody of Rapid", b, r.Err(), all(api.Rapid, rapid))
		r = wire.New(body, 0)
		b = bpdu.ReadBody(r, api.Config)
		is(t, "ReadBody of Config", b, r.Err(), all(api.Config, config))
	}
}

// starts are where the fields of a Body begin: flags, a bridge as a number and an address, Cost, a bridge, Port, times.
var starts = []int{0, 1, 3, 9, 13, 15, 21, 23, 25, 27, 29}

// start is where the field begins of which n bytes of a Body have too few.
func start(n int) int {
	at := 0
	for _, x := range starts {
		if x <= n {
			at = x
		}
	}
	return at
}

// 9.2 and P3: each field of a Body is missed at its first byte; the places count from the Reader's.
func TestReadBodyCut(t *testing.T) {
	for _, kind := range []int{api.Config, api.Rapid} {
		s := bytesOf("81" + behind)
		for n := range len(s) {
			r := wire.New(s[:n], 100)
			bpdu.ReadBody(r, kind)
			if e, at := plain.Place(r.Err()); e != api.ErrMissing || at != 100+start(n) {
				t.Errorf("ReadBody of %d bytes: error %d at %d, want ErrMissing at %d", n, e, at, 100+start(n))
			}
		}
	}
}

// 9.2 and 1.2: the first error stays, and nothing is read after it.
func TestReadBodyAfterError(t *testing.T) {
	s := bytesOf("81" + behind)
	r := wire.New(s, 7)
	r.Fail(api.ErrCycle, 3)
	bpdu.ReadBody(r, api.Rapid)
	if e, at := plain.Place(r.Err()); e != api.ErrCycle || at != 3 || r.Left() != len(s) {
		t.Errorf("ReadBody after an error: error %d at %d, %d left", e, at, r.Left())
	}
}

// 9.3: each field is missed at its first byte, the first four bytes, and the last one of a Rapid message, too.
func TestEveryCut(t *testing.T) {
	for _, x := range samples {
		s := bytesOf(x.digits)
		for n := range len(s) {
			place := 0
			switch {
			case n == 4+bodySize:
				place = n
			case n >= 4:
				place = 4 + start(n-4)
			}
			refuses(t, s[:n], api.ErrMissing, place)
		}
	}
	for _, s := range []string{"\x01", "\xff\xff", "\x00\x01\x02", "\x00\x00\x03"} {
		refuses(t, s, api.ErrMissing, 0)
	}
}

// 9.3: every beginning but the three is of no message, whatever follows.
func TestReadEveryHead(t *testing.T) {
	body := bytesOf("00" + behind + "00")
	for i := range 4 {
		for _, x := range samples {
			for c := range 256 {
				head := []byte(bytesOf(x.digits)[:4])
				head[i] = byte(c)
				switch string(head) {
				case "\x00\x00\x00\x00":
					reads(t, string(head)+body, all(api.Config, api.Flags{}))
				case "\x00\x00\x00\x80":
					reads(t, string(head)+body, api.Bpdu{Kind: api.Notice})
				case "\x00\x00\x02\x02":
					reads(t, string(head)+body, all(api.Rapid, api.Flags{}))
				default:
					refuses(t, string(head), api.ErrForm, 0)
					refuses(t, string(head)+body, api.ErrForm, 0)
				}
			}
		}
	}
	// The last two have the types of a Config and of a Rapid message, but another version.
	for _, digits := range []string{"00000002", "00000280", "00008000", "80000000", "02020000", "00000300", "00000302"} {
		refuses(t, bytesOf(digits)+body, api.ErrForm, 0)
	}
}

// 9.3: a port's No is not 0, which is told before what is missing, or wrong, behind it.
func TestReadPort(t *testing.T) {
	for _, head := range []string{"00000000 00", "00000202 3e"} {
		for _, port := range []string{"0000", "1000", "8000", "f000"} {
			s := bytesOf(head + behind[:strings.Index(behind, "8142")] + port)
			for _, tail := range []string{"", "\x00", "\x00\x01\x00\x02\x00\x03\x00\x04", "\x00\x01\x00\x02\x00\x03\x00\x04\x00", "\x00\x01\x00\x02\x00\x03\x00\x04\x01"} {
				refuses(t, s+tail, api.ErrRange, 25)
			}
			refuses(t, s[:26], api.ErrMissing, 25)
		}
	}
}

// 9.3: the last byte of a Rapid message is 0.
func TestReadTail(t *testing.T) {
	s := bytesOf("00000202 00" + behind)
	for c := range 256 {
		for _, more := range []string{"", "\x00", "\x01\xff"} {
			whole := s + string([]byte{byte(c)}) + more
			if c == 0 {
				reads(t, whole, all(api.Rapid, api.Flags{}))
			} else {
				refuses(t, whole, api.ErrForm, 35)
			}
		}
	}
}

// 9.3: bytes after a message are ignored.
func TestReadMore(t *testing.T) {
	for _, x := range samples {
		for _, more := range []string{"\x00", "\x01", "\xff", "\x00\x00\x00\x80", strings.Repeat("\x00", 1000), strings.Repeat("\xee", 1000)} {
			reads(t, bytesOf(x.digits)+more, x.b)
		}
	}
}

// Property 1: whatever byte is put in another's place, what is read is valid and is written in the same way again, up to what is ignored.
func TestEveryChange(t *testing.T) {
	for _, x := range samples {
		s := bytesOf(x.digits)
		for i := range s {
			for c := range 256 {
				changed := []byte(s)
				changed[i] = byte(c)
				b, err := bpdu.Read(string(changed))
				if err != nil {
					e, at := plain.Place(err)
					refuses(t, string(changed), e, at)
					continue
				}
				if b.Kind == api.Config {
					changed[4] &= 0x81
				}
				again, err := bpdu.Write(b)
				if err != nil || !bpdu.Right(b) || !strings.HasPrefix(string(changed), again) {
					t.Errorf("Read(%x) = %+v, which is written as %x, %v", changed, b, again, err)
				}
			}
		}
	}
}

// P1: no argument makes a call panic; what is not specified is zero.
func TestNotSpecified(t *testing.T) {
	for _, x := range []int{math.MinInt, -4, -1, 4, 5, 8, math.MaxInt} {
		if got := bpdu.Byte(every(x)); got != 0 {
			t.Errorf("Byte with Role %d = %d", x, got)
		}
	}
	for _, b := range append(wrong(), api.Bpdu{}, api.Bpdu{Kind: api.Notice}) {
		if got := bpdu.Body(b); got != "" {
			t.Errorf("Body(%+v) = %x", b, got)
		}
	}
	for _, n := range []int{math.MinInt, -256, -1, 256, 257, 1<<32 + 1, math.MaxInt} {
		if got := bpdu.Of(n); got != (api.Flags{}) {
			t.Errorf("Of(%d) = %+v", n, got)
		}
		for _, kind := range []int{api.Config, api.Notice, api.Rapid, n} {
			bpdu.ReadBody(wire.New(bytesOf("ff"+behind), 0), kind)
			if got := bpdu.ReadBody(wire.New(bytesOf("ff 8005"), 0), kind); got != (api.Bpdu{}) {
				t.Errorf("ReadBody of too few bytes = %+v", got)
			}
		}
	}
}
