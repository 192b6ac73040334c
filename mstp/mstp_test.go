package mstp_test

import (
	"encoding/hex"
	"math"
	"math/rand"
	"reflect"
	"slices"
	"strings"
	"testing"

	"switchyard/api"
	"switchyard/mstp"
	"switchyard/plain"
)

// none is the place of an error that has none.
const none = -1

// Where the parts of a message begin that Read looks at the value of, and where the instances begin.
const (
	atPort   = 25
	atFirst  = 35 // the zero behind Body
	atLength = 36
	atSecond = 38 // the zero ahead of Name
	atInsts  = 102
)

// bytesOf are those that digits tell; blanks are for the reader.
func bytesOf(digits string) string {
	b, err := hex.DecodeString(strings.ReplaceAll(digits, " ", ""))
	if err != nil {
		panic(digits)
	}
	return string(b)
}

// filled is a name as the digits of its 32 bytes.
func filled(name string) string {
	return hex.EncodeToString([]byte(name)) + strings.Repeat("00", 32-len(name))
}

// every has all flags of one bit, and a role.
func every(role int) api.Flags {
	return api.Flags{Change: true, Proposal: true, Role: role, Learn: true, Pass: true, Agree: true, Ack: true}
}

// all is a message each of whose numbers has other bytes, and allDigits are those of it.
func all() api.Mst {
	return api.Mst{
		Base: api.Bpdu{
			Kind: api.Rapid, Flags: api.Flags{Change: true, Role: 2, Pass: true},
			Root: api.Bridge{Prio: 32768, Ext: 5, Addr: api.Addr{0x11, 0x12, 0x13, 0x14, 0x15, 0x16}}, Cost: 0x21222324,
			Sender: api.Bridge{Prio: 4096, Ext: 0x234, Addr: api.Addr{0x31, 0x32, 0x33, 0x34, 0x35, 0x36}}, Port: api.Port{Prio: 128, No: 0x142},
			Age: 0x5152, Max: 0x6162, Hello: 0x7172, Wait: 0x8182,
		},
		Name: "north", Rev: 0x9192, Digest: "0123456789abcdef",
		Cost: 0xa1a2a3a4, Bridge: api.Bridge{Prio: 61440, Ext: 0x123, Addr: api.Addr{0xb1, 0xb2, 0xb3, 0xb4, 0xb5, 0xb6}}, Hops: 0xc1,
		Insts: []api.Inst{
			{
				Flags: api.Flags{Proposal: true, Role: 1, Learn: true, Agree: true, Ack: true},
				Root:  api.Bridge{Prio: 8192, Ext: 1, Addr: api.Addr{0xd1, 0xd2, 0xd3, 0xd4, 0xd5, 0xd6}}, Cost: 0xe1e2e3e4, Bridge: 8, Port: 7, Hops: 19,
			},
			{Root: api.Bridge{Ext: 4095, Addr: api.Addr{5: 1}}, Cost: 1, Bridge: 1, Hops: 255},
		},
	}
}

const (
	allHead   = "00000302 29 8005 111213141516 21222324 1234 313233343536 8142 5152 6162 7172 8182 00"
	allRegion = "00 6e6f727468" + "000000000000000000000000000000000000000000000000000000" +
		"9192 30313233343536373839616263646566 a1a2a3a4 f123 b1b2b3b4b5b6 c1"
	allFirst  = "d6 2001 d1d2d3d4d5d6 e1e2e3e4 80 70 13"
	allSecond = "00 0fff 000000000001 00000001 10 00 ff"
	allDigits = allHead + "0060" + allRegion + allFirst + allSecond
)

// least has zeros, where they may be, and most the greatest numbers, with so many instances.
func least(n int) api.Mst {
	return api.Mst{
		Base:   api.Bpdu{Kind: api.Rapid, Port: api.Port{No: 1}},
		Digest: strings.Repeat("\x00", 16), Insts: make([]api.Inst, n),
	}
}

func most(n int) api.Mst {
	high := api.Bridge{Prio: 61440, Ext: 4095, Addr: api.Addr{255, 255, 255, 255, 255, 255}}
	inst := api.Inst{Flags: every(3), Root: high, Cost: 1<<32 - 1, Bridge: 15, Port: 15, Hops: 255}
	return api.Mst{
		Base: api.Bpdu{
			Kind: api.Rapid, Flags: every(3), Root: high, Cost: 1<<32 - 1, Sender: high, Port: api.Port{Prio: 240, No: 4095},
			Age: 65535, Max: 65535, Hello: 65535, Wait: 65535,
		},
		Name: strings.Repeat("\xff", 32), Rev: 65535, Digest: strings.Repeat("\xff", 16),
		Cost: 1<<32 - 1, Bridge: high, Hops: 255, Insts: slices.Repeat([]api.Inst{inst}, n),
	}
}

const (
	leastHead = "00000302 00" + "0000000000000000 00000000 0000000000000000 0001 0000000000000000 00"
	mostHead  = "00000302 ff" + "ffffffffffffffff ffffffff ffffffffffffffff ffff ffffffffffffffff 00"
)

// leastDigits and mostDigits are those of the two, with the length that is told.
func leastDigits(length string, n int) string {
	return leastHead + length + strings.Repeat("00", 64+16*n)
}

func mostDigits(length string, n int) string {
	return mostHead + length + "00" + strings.Repeat("ff", 63) + strings.Repeat(strings.Repeat("ff", 13)+"f0f0ff", n)
}

// sample is a message, and its bytes.
type sample struct {
	m      api.Mst
	digits string
}

// named is a message whose name is another one.
func named(name string) sample {
	m := all()
	m.Name = name
	return sample{m, allHead + "0060 00" + filled(name) + allRegion[3+2*32:] + allFirst + allSecond}
}

// samples are messages; the first one is the example.
func samples() []sample {
	alone := all()
	alone.Insts = nil
	one := all()
	one.Insts = one.Insts[1:]
	return []sample{
		{alone, allHead + "0040" + allRegion},
		{one, allHead + "0050" + allRegion + allSecond},
		{all(), allDigits},
		{least(0), leastDigits("0040", 0)}, {least(1), leastDigits("0050", 1)}, {least(64), leastDigits("0440", 64)},
		{most(0), mostDigits("0040", 0)}, {most(1), mostDigits("0050", 1)}, {most(63), mostDigits("0430", 63)}, {most(64), mostDigits("0440", 64)},
		named(""), named("n"), named("\x00n"), named("a\x00b"), named("\x00\x00\xff"), named("\xc3\xa4"),
		named(strings.Repeat("n", 31)), named(strings.Repeat("n", 32)), named(strings.Repeat("\x00", 31) + "n"), named("n" + strings.Repeat("\x00", 30) + "n"),
	}
}

// field is a number of a message: how it is set, what is the greatest one, and the least step from one to the next.
type field struct {
	what       string
	set        func(m *api.Mst, x int)
	most, step int
}

// fields are all that may be from 0 on. Those of instances are of the one at a place.
func fields(i int) []field {
	return []field{
		{"Base.Flags.Role", func(m *api.Mst, x int) { m.Base.Flags.Role = x }, 3, 1},
		{"Base.Root.Prio", func(m *api.Mst, x int) { m.Base.Root.Prio = x }, 61440, 4096},
		{"Base.Cost", func(m *api.Mst, x int) { m.Base.Cost = x }, 1<<32 - 1, 1},
		{"Base.Sender.Ext", func(m *api.Mst, x int) { m.Base.Sender.Ext = x }, 4095, 1},
		{"Base.Port.Prio", func(m *api.Mst, x int) { m.Base.Port.Prio = x }, 240, 16},
		{"Base.Wait", func(m *api.Mst, x int) { m.Base.Wait = x }, 65535, 1},
		{"Rev", func(m *api.Mst, x int) { m.Rev = x }, 65535, 1},
		{"Cost", func(m *api.Mst, x int) { m.Cost = x }, 1<<32 - 1, 1},
		{"Bridge.Prio", func(m *api.Mst, x int) { m.Bridge.Prio = x }, 61440, 4096},
		{"Bridge.Ext", func(m *api.Mst, x int) { m.Bridge.Ext = x }, 4095, 1},
		{"Hops", func(m *api.Mst, x int) { m.Hops = x }, 255, 1},
		{"Flags.Role of an Inst", func(m *api.Mst, x int) { m.Insts[i].Flags.Role = x }, 3, 1},
		{"Root.Prio of an Inst", func(m *api.Mst, x int) { m.Insts[i].Root.Prio = x }, 61440, 4096},
		{"Root.Ext of an Inst", func(m *api.Mst, x int) { m.Insts[i].Root.Ext = x }, 4095, 1},
		{"Cost of an Inst", func(m *api.Mst, x int) { m.Insts[i].Cost = x }, 1<<32 - 1, 1},
		{"Bridge of an Inst", func(m *api.Mst, x int) { m.Insts[i].Bridge = x }, 15, 1},
		{"Port of an Inst", func(m *api.Mst, x int) { m.Insts[i].Port = x }, 15, 1},
		{"Hops of an Inst", func(m *api.Mst, x int) { m.Insts[i].Hops = x }, 255, 1},
	}
}

// wrong are messages that may not be, numbers of fields apart.
func wrong() []api.Mst {
	var l []api.Mst
	with := func(change func(m *api.Mst)) {
		m := all()
		change(&m)
		l = append(l, m)
	}
	for _, kind := range []int{math.MinInt, -1, 0, api.Config, api.Notice, 4, math.MaxInt} {
		with(func(m *api.Mst) { m.Base.Kind = kind })
		with(func(m *api.Mst) { m.Base.Kind, m.Base.Flags = kind, api.Flags{} })
		with(func(m *api.Mst) { m.Base = api.Bpdu{Kind: kind} })
	}
	with(func(m *api.Mst) { m.Base.Port.No = 0 })
	for _, name := range []string{"\x00", "n\x00", "\x00\x00", strings.Repeat("\x00", 32), strings.Repeat("n", 31) + "\x00", strings.Repeat("n", 33), strings.Repeat("n", 32) + "\x00", strings.Repeat("\x00", 33), strings.Repeat("n", 1000)} {
		with(func(m *api.Mst) { m.Name = name })
	}
	for _, n := range []int{0, 1, 15, 17, 32, 1000} {
		with(func(m *api.Mst) { m.Digest = strings.Repeat("d", n) })
	}
	for _, n := range []int{65, 66, 128, 5000} {
		l = append(l, least(n), most(n))
	}
	return append(l, api.Mst{})
}

// same says whether two messages are one; lists without instances are.
func same(a, b api.Mst) bool {
	insts := slices.Equal(a.Insts, b.Insts)
	a.Insts, b.Insts = nil, nil
	return insts && reflect.DeepEqual(a, b)
}

// reads asks Read for a message, which is valid.
func reads(t *testing.T, s string, want api.Mst) {
	t.Helper()
	if m, err := mstp.Read(s); !same(m, want) || err != nil || !mstp.Right(m) {
		t.Errorf("Read(%x) = %+v, %v, want %+v", s, m, err, want)
	}
}

// refuses asks Read for an error with its place, and for no message with it.
func refuses(t *testing.T, s string, want api.Errno, place int) {
	t.Helper()
	m, err := mstp.Read(s)
	if e, at := plain.Place(err); e != want || at != place {
		t.Errorf("Read(%x): error %d at %d, want %d at %d", s, e, at, want, place)
	}
	if !same(m, api.Mst{}) {
		t.Errorf("Read(%x) = %+v with an error", s, m)
	}
}

// judges asks whether a message is valid, and whether Write agrees, whose error has no place.
func judges(t *testing.T, what string, m api.Mst, want bool) {
	t.Helper()
	if got := mstp.Right(m); got != want {
		t.Errorf("%s: Right(%.300v) = %v", what, m, got)
	}
	s, err := mstp.Write(m)
	e, at := plain.Place(err)
	if want && (e != api.OK || s == "") || !want && (e != api.ErrArg || at != none || s != "") {
		t.Errorf("%s: Write(%.300v): %d bytes, error %d at %d", what, m, len(s), e, at)
	}
}

// 12.1 and 12.2: messages that may be, and such that may not.
func TestRight(t *testing.T) {
	for _, x := range samples() {
		judges(t, "a sample", x.m, true)
	}
	for _, m := range wrong() {
		judges(t, "wrong", m, false)
	}
}

// 12.1: each number may be from 0 to its greatest, in its steps; that of an instance, wherever it stands.
func TestRightEdges(t *testing.T) {
	for _, i := range []int{0, 1, 31, 63} {
		for _, f := range fields(i) {
			for _, x := range []int{math.MinInt, -1 << 32, -f.step, -1, 0, 1, f.step - 1, f.step, f.step + 1, f.most - f.step, f.most - 1, f.most, f.most + 1, f.most + f.step, 2 * (f.most + 1), 1 << 32, 1 << 62, math.MaxInt} {
				for _, m := range []api.Mst{least(64), most(64)} {
					f.set(&m, x)
					judges(t, f.what, m, x >= 0 && x <= f.most && x%f.step == 0)
				}
			}
		}
	}
}

// 12.1: a name's length, a digest's, and the number of instances.
func TestRightLengths(t *testing.T) {
	for n := range 140 {
		m := all()
		m.Name = strings.Repeat("n", n)
		judges(t, "Name", m, n <= 32)
		m = all()
		m.Digest = strings.Repeat("\x00", n)
		judges(t, "Digest", m, n == 16)
		judges(t, "Insts", least(n), n <= 64)
		judges(t, "Insts", most(n), n <= 64)
	}
}

// 12.1: no name ends with a zero, whatever stands ahead of it, and any other byte may stand anywhere.
func TestRightNames(t *testing.T) {
	for c := range 256 {
		for _, ahead := range []string{"", "n", "\x00", "n\x00", strings.Repeat("n", 31)} {
			m := all()
			m.Name = ahead + string([]byte{byte(c)})
			judges(t, "Name", m, c != 0)
			m.Name = string([]byte{byte(c)}) + "n"
			judges(t, "Name", m, true)
		}
	}
}

// 12.2, 12.3 and property 1: the bytes of messages, in both directions.
func TestSamples(t *testing.T) {
	for _, x := range samples() {
		want := bytesOf(x.digits)
		if s, err := mstp.Write(x.m); s != want || err != nil {
			t.Errorf("Write(%+v) = %x, %v, want %x", x.m, s, err, want)
		}
		reads(t, want, x.m)
	}
}

// 12.2 and 12.3: all flags, of Base and of instances, and all priorities of these.
func TestEveryFlags(t *testing.T) {
	flags := func(n int) api.Flags {
		bit := func(i int) bool { return n>>i&1 == 1 }
		return api.Flags{Change: bit(0), Proposal: bit(1), Role: n / 4 % 4, Learn: bit(4), Pass: bit(5), Agree: bit(6), Ack: bit(7)}
	}
	for n := range 256 {
		m, s := all(), []byte(bytesOf(allDigits))
		m.Base.Flags, m.Insts[0].Flags, m.Insts[1].Flags = flags(n), flags(255-n), flags(n^0x5a)
		s[4], s[atInsts], s[atInsts+16] = byte(n), byte(255-n), byte(n^0x5a)
		m.Insts[0].Bridge, m.Insts[0].Port = n/16, n%16
		s[atInsts+13], s[atInsts+14] = byte(n/16*16), byte(n%16*16)
		if got, err := mstp.Write(m); got != string(s) || err != nil {
			t.Errorf("Write(%+v) = %x, %v, want %x", m, got, err, s)
		}
		reads(t, string(s), m)
	}
}

// start is where the field begins that a message of so many bytes has too few of.
func start(n int) int {
	// Up to the instances: the beginning, Body, a zero, the length, a zero, the region; a bridge is a number and an address.
	starts := []int{0, 4, 5, 7, 13, 17, 19, 25, 27, 29, 31, 33, atFirst, atLength, atSecond, 39, 71, 73, 89, 93, 95, 101}
	if n >= atInsts {
		first := atInsts + (n-atInsts)/16*16
		starts = []int{first, first + 1, first + 3, first + 9, first + 13, first + 14, first + 15}
	}
	at := 0
	for _, x := range starts {
		if x <= n {
			at = x
		}
	}
	return at
}

// 12.3 and P3: each field is missed at its first byte, those of each instance that the length counts, too.
func TestEveryCut(t *testing.T) {
	for _, x := range samples() {
		s := bytesOf(x.digits)
		for n := range len(s) {
			refuses(t, s[:n], api.ErrMissing, start(n))
		}
	}
	// What of a field is there is not looked at.
	for _, s := range []string{"\x01", "\xff\xff", "\x00\x00\x03", "\x00\x00\x02", "\x01\x02\x03"} {
		refuses(t, s, api.ErrMissing, 0)
	}
	refuses(t, bytesOf(allHead+"ff"), api.ErrMissing, atLength)
	refuses(t, bytesOf(allHead)[:atPort]+"\x00", api.ErrMissing, atPort)
}

// 12.3: every other beginning is of no such message, those of other BPDUs included, whatever follows.
func TestReadHead(t *testing.T) {
	rest := bytesOf(allDigits)[4:]
	for i := range 4 {
		for c := range 256 {
			head := []byte("\x00\x00\x03\x02")
			head[i] = byte(c)
			if string(head) == "\x00\x00\x03\x02" {
				reads(t, string(head)+rest, all())
				continue
			}
			refuses(t, string(head), api.ErrForm, 0)
			refuses(t, string(head)+rest, api.ErrForm, 0)
		}
	}
	for _, digits := range []string{"00000000", "00000080", "00000202", "00000300", "03020000", "02030000"} {
		refuses(t, bytesOf(digits), api.ErrForm, 0)
		refuses(t, bytesOf(digits)+rest, api.ErrForm, 0)
	}
}

// 12.3: a port's No is not 0.
func TestReadPort(t *testing.T) {
	for high := range 256 {
		for low := range 256 {
			s := []byte(bytesOf(allDigits))
			s[atPort], s[atPort+1] = byte(high), byte(low)
			no := high%16*256 + low
			if no == 0 {
				refuses(t, string(s), api.ErrRange, atPort)
				continue
			}
			want := all()
			want.Base.Port = api.Port{Prio: high / 16 * 16, No: no}
			reads(t, string(s), want)
		}
	}
}

// 12.3: the zeros behind Body and ahead of Name.
func TestReadZeros(t *testing.T) {
	for _, place := range []int{atFirst, atSecond} {
		for c := range 256 {
			s := []byte(bytesOf(allDigits))
			s[place] = byte(c)
			if c == 0 {
				reads(t, string(s), all())
				continue
			}
			refuses(t, string(s), api.ErrForm, place)
			refuses(t, string(s[:place+1]), api.ErrForm, place)
		}
	}
}

// 12.3: every length: a multiple of 16 from 64 to 1088 tells how many instances are read, and no other may be.
func TestReadLength(t *testing.T) {
	whole := bytesOf(mostDigits("0440", 64))
	for n := range 65536 {
		s := []byte(whole)
		s[atLength], s[atLength+1] = byte(n>>8), byte(n)
		if n < 64 || n > 1088 || n%16 != 0 {
			refuses(t, string(s), api.ErrRange, atLength)
			refuses(t, string(s[:atLength+2]), api.ErrRange, atLength)
			continue
		}
		count := (n - 64) / 16
		reads(t, string(s), most(count))
		reads(t, string(s[:atInsts+16*count]), most(count))
		refuses(t, string(s[:atInsts+16*count-1]), api.ErrMissing, start(atInsts+16*count-1))
	}
}

// 12.3: the first error in the order of reading is told, whatever is wrong behind it.
func TestReadOrder(t *testing.T) {
	faults := []struct {
		at    int
		with  string
		e     api.Errno
		place int
	}{
		{3, "\x03", api.ErrForm, 0},
		{atPort, "\xf0\x00", api.ErrRange, atPort},
		{atFirst, "\x01", api.ErrForm, atFirst},
		{atLength, "\x00\x41", api.ErrRange, atLength},
		{atSecond, "\x01", api.ErrForm, atSecond},
	}
	whole := bytesOf(allDigits)
	for i, first := range faults {
		s := []byte(whole)
		for _, x := range faults[i:] {
			copy(s[x.at:], x.with)
		}
		// From the end of the first fault on, nothing needs to be there.
		for n := first.at + len(first.with); n <= len(s); n++ {
			refuses(t, string(s[:n]), first.e, first.place)
		}
		for n := range first.at {
			refuses(t, string(s[:n]), api.ErrMissing, start(n))
		}
	}
}

// 12.3: the lower four bits of an instance's Bridge and Port are ignored.
func TestReadLow(t *testing.T) {
	for n := range 256 {
		s := []byte(bytesOf(allDigits))
		want := all()
		for i := range want.Insts {
			s[atInsts+16*i+13], s[atInsts+16*i+14] = byte(n), byte(255-n)
			want.Insts[i].Bridge, want.Insts[i].Port = n/16, (255-n)/16
		}
		reads(t, string(s), want)
	}
}

// 12.3: zeros at the end of Name do not belong to it, others do, and every other byte.
func TestReadName(t *testing.T) {
	for n := range 33 {
		for _, c := range []byte{1, ' ', '0', 0x80, 0xff} {
			name := strings.Repeat("\x00", max(0, n-1)) + string([]byte{c})
			if n == 0 {
				name = ""
			}
			s := []byte(bytesOf(allDigits))
			copy(s[atSecond+1:], name+strings.Repeat("\x00", 32-len(name)))
			want := all()
			want.Name = name
			reads(t, string(s), want)
		}
	}
}

// 12.3: bytes after a message are ignored.
func TestReadMore(t *testing.T) {
	for _, x := range samples() {
		for _, more := range []string{"\x00", "\x01", "\xff", strings.Repeat("\x00", 16), strings.Repeat("\x00", 3000), strings.Repeat("\xee", 3000), bytesOf(allDigits)} {
			reads(t, bytesOf(x.digits)+more, x.m)
		}
	}
}

// Property 1: whatever byte is put in another's place, what is read is valid and is written in the same way again, up to what is ignored.
func TestEveryChange(t *testing.T) {
	for _, x := range samples() {
		s := bytesOf(x.digits)
		// The messages with more instances tell nothing else, and take long.
		for i := range min(len(s), atInsts+2*16) {
			for c := range 256 {
				changed := []byte(s)
				changed[i] = byte(c)
				m, err := mstp.Read(string(changed))
				if err != nil {
					if !slices.Contains([]int{0, 1, 2, 3, atPort, atPort + 1, atFirst, atLength, atLength + 1, atSecond}, i) {
						t.Errorf("Read(%x): %v, although any byte may be at %d", changed, err, i)
					}
					e, at := plain.Place(err)
					refuses(t, string(changed), e, at)
					continue
				}
				if part := (i - atInsts) % 16; i >= atInsts && (part == 13 || part == 14) {
					changed[i] &= 0xf0
				}
				again, err := mstp.Write(m)
				if err != nil || !mstp.Right(m) || !strings.HasPrefix(string(changed), again) {
					t.Fatalf("Read(%x) = %+v, which is written as %x, %v", changed, m, again, err)
				}
			}
		}
	}
}

// drawn is a message that may be.
func drawn(source *rand.Rand) api.Mst {
	text := func(n int) string {
		b := make([]byte, n)
		source.Read(b)
		return string(b)
	}
	bridge := func() api.Bridge {
		return api.Bridge{Prio: 4096 * source.Intn(16), Ext: source.Intn(4096), Addr: api.Addr([]byte(text(6)))}
	}
	flags := func() api.Flags {
		bit := func() bool { return source.Intn(2) == 0 }
		return api.Flags{Change: bit(), Proposal: bit(), Role: source.Intn(4), Learn: bit(), Pass: bit(), Agree: bit(), Ack: bit()}
	}
	m := api.Mst{
		Base: api.Bpdu{
			Kind: api.Rapid, Flags: flags(), Root: bridge(), Cost: source.Intn(1 << 32), Sender: bridge(), Port: api.Port{Prio: 16 * source.Intn(16), No: 1 + source.Intn(4095)},
			Age: source.Intn(65536), Max: source.Intn(65536), Hello: source.Intn(65536), Wait: source.Intn(65536),
		},
		Name: strings.TrimRight(text(source.Intn(33)), "\x00"), Rev: source.Intn(65536), Digest: text(16),
		Cost: source.Intn(1 << 32), Bridge: bridge(), Hops: source.Intn(256),
	}
	for range source.Intn(65) {
		m.Insts = append(m.Insts, api.Inst{Flags: flags(), Root: bridge(), Cost: source.Intn(1 << 32), Bridge: source.Intn(16), Port: source.Intn(16), Hops: source.Intn(256)})
	}
	return m
}

// Property 1: what is written is read back.
func TestReadBack(t *testing.T) {
	source := rand.New(rand.NewSource(12))
	for range 2000 {
		m := drawn(source)
		s, err := mstp.Write(m)
		if err != nil || len(s) != 102+16*len(m.Insts) {
			t.Errorf("Write(%+v): %d bytes, %v", m, len(s), err)
		}
		reads(t, s, m)
	}
}

// P4: a list is not changed, nor the memory behind it, and the lists that are read are memory of their own.
func TestArgsStay(t *testing.T) {
	for _, m := range []api.Mst{all(), least(3), most(64), most(65)} {
		room := append(slices.Clone(m.Insts), api.Inst{Cost: -1}, api.Inst{Cost: -2})
		before := slices.Clone(room)
		m.Insts = room[:len(m.Insts)]
		mstp.Right(m)
		s, _ := mstp.Write(m)
		if !slices.Equal(room, before) {
			t.Errorf("%+v: changed to %+v", before, room)
		}
		first, _ := mstp.Read(s)
		second, _ := mstp.Read(s)
		kept := slices.Clone(second.Insts)
		for i := range first.Insts {
			first.Insts[i] = api.Inst{Cost: -3}
		}
		_ = append(first.Insts, api.Inst{Cost: -4})
		if !slices.Equal(second.Insts, kept) {
			t.Errorf("the second list that was read has changed to %+v", second.Insts)
		}
	}
}
