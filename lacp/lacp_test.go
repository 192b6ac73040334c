package lacp_test

import (
	"encoding/hex"
	"math"
	"math/rand"
	"slices"
	"strings"
	"testing"

	"switchyard/api"
	"switchyard/lacp"
	"switchyard/plain"
)

// none is the place of an error that has none.
const none = -1

// size is how many bytes every message has.
const size = 110

// bytesOf are those that digits tell; blanks are for the reader.
func bytesOf(digits string) string {
	b, err := hex.DecodeString(strings.ReplaceAll(digits, " ", ""))
	if err != nil {
		panic(digits)
	}
	return string(b)
}

// part is a part of a message: a group of bytes, with all that it may be, or so many bytes of a number, of an address, or that are reserved.
type part struct {
	at, n    int
	groups   []string
	reserved bool
}

// layout puts parts one behind the other.
func layout(l ...part) []part {
	at := 0
	for i := range l {
		if l[i].groups != nil {
			l[i].n = len(l[i].groups[0])
		}
		l[i].at = at
		at += l[i].n
	}
	if at != size {
		panic(at)
	}
	return l
}

// group is such a part, digits being those of what it may be.
func group(digits ...string) part {
	var p part
	for _, x := range digits {
		p.groups = append(p.groups, bytesOf(x))
	}
	return p
}

// stateParts are those of what both sides know, and markParts those of a marker.
func stateParts() []part {
	number, reserved := part{n: 2}, part{n: 3, reserved: true}
	return layout(group("0101"),
		group("0114"), number, part{n: 6}, number, number, number, part{n: 1}, reserved,
		group("0214"), number, part{n: 6}, number, number, number, part{n: 1}, reserved,
		group("0310"), number, part{n: 12, reserved: true}, group("0000"), part{n: 50, reserved: true})
}

func markParts() []part {
	return layout(group("0201"), group("01", "02"), group("10"),
		part{n: 2}, part{n: 6}, part{n: 4}, part{n: 2, reserved: true}, group("0000"), part{n: 90, reserved: true})
}

// kind is one of the two kinds of messages: how bytes are read (and whether what is read is valid, as Right or Mark tells), how that is written, and its parts.
// Messages of both kinds are compared as values of type any.
type kind struct {
	name    string
	read    func(s string) (any, bool, error)
	write   func(m any) (string, error)
	right   func(m any) bool
	nothing any
	parts   []part
	samples []sample
}

// sample is a message, and its bytes.
type sample struct {
	m      any
	digits string
}

// kinds are both.
func kinds() []kind {
	return []kind{
		{
			"Lacp",
			func(s string) (any, bool, error) { l, err := lacp.Read(s); return l, lacp.Right(l), err },
			func(m any) (string, error) { return lacp.Write(m.(api.Lacp)) },
			func(m any) bool { return lacp.Right(m.(api.Lacp)) },
			api.Lacp{}, stateParts(), stateSamples(),
		},
		{
			"Marker",
			func(s string) (any, bool, error) { m, err := lacp.ReadMark(s); return m, lacp.Mark(m), err },
			func(m any) (string, error) { return lacp.WriteMark(m.(api.Marker)) },
			func(m any) bool { return lacp.Mark(m.(api.Marker)) },
			api.Marker{}, markParts(), markSamples(),
		},
	}
}

// all has other bytes in each of its numbers.
func all() api.Lacp {
	return api.Lacp{
		Actor:   api.Party{SysPrio: 0x1112, Sys: api.Addr{0x21, 0x22, 0x23, 0x24, 0x25, 0x26}, Key: 0x3132, PortPrio: 0x4142, Port: 0x5152, State: 0x61},
		Partner: api.Party{SysPrio: 0x7172, Sys: api.Addr{0x81, 0x82, 0x83, 0x84, 0x85, 0x86}, Key: 0x9192, PortPrio: 0xa1a2, Port: 0xb1b2, State: 0xc1},
		Delay:   0xd1d2,
	}
}

// most has the greatest numbers.
func most() api.Lacp {
	side := api.Party{SysPrio: 65535, Sys: api.Addr{255, 255, 255, 255, 255, 255}, Key: 65535, PortPrio: 65535, Port: 65535, State: 255}
	return api.Lacp{Actor: side, Partner: side, Delay: 65535}
}

// noughts are the digits of so many zeros, and full those of bytes of ff.
func noughts(n int) string { return strings.Repeat("00", n) }
func full(n int) string    { return strings.Repeat("ff", n) }

func stateSamples() []sample {
	end := noughts(12) + "0000" + noughts(50)
	return []sample{
		{all(), "0101 0114 1112 212223242526 3132 4142 5152 61 000000 0214 7172 818283848586 9192 a1a2 b1b2 c1 000000 0310 d1d2" + end},
		{api.Lacp{}, "0101 0114" + noughts(18) + "0214" + noughts(18) + "0310 0000" + end},
		{most(), "0101 0114" + full(15) + "000000 0214" + full(15) + "000000 0310 ffff" + end},
		{api.Lacp{Actor: all().Actor}, "0101 0114 1112 212223242526 3132 4142 5152 61 000000 0214" + noughts(18) + "0310 0000" + end},
		{api.Lacp{Partner: all().Actor, Delay: 1}, "0101 0114" + noughts(18) + "0214 1112 212223242526 3132 4142 5152 61 000000 0310 0001" + end},
	}
}

// marker has other bytes in each of its numbers.
func marker(reply bool) api.Marker {
	return api.Marker{Reply: reply, Port: 0x1112, Sys: api.Addr{0x21, 0x22, 0x23, 0x24, 0x25, 0x26}, Txn: 0x31323334}
}

// mostMarker has the greatest numbers.
func mostMarker(reply bool) api.Marker {
	return api.Marker{Reply: reply, Port: 65535, Sys: api.Addr{255, 255, 255, 255, 255, 255}, Txn: 1<<32 - 1}
}

func markSamples() []sample {
	end := "0000 0000" + noughts(90)
	return []sample{
		{marker(false), "0201 01 10 1112 212223242526 31323334" + end},
		{marker(true), "0201 02 10 1112 212223242526 31323334" + end},
		{api.Marker{}, "0201 01 10" + noughts(12) + end},
		{api.Marker{Reply: true}, "0201 02 10" + noughts(12) + end},
		{mostMarker(false), "0201 01 10" + full(12) + end},
		{mostMarker(true), "0201 02 10" + full(12) + end},
	}
}

// reads asks for a message, which is valid.
func reads(t *testing.T, k kind, s string, want any) {
	t.Helper()
	if m, right, err := k.read(s); m != want || err != nil || !right {
		t.Errorf("%s %x is read as %+v (valid: %v), %v, want %+v", k.name, s, m, right, err, want)
	}
}

// refuses asks for an error with its place, and for no message with it.
func refuses(t *testing.T, k kind, s string, want api.Errno, place int) {
	t.Helper()
	m, _, err := k.read(s)
	if e, at := plain.Place(err); e != want || at != place {
		t.Errorf("%s %x: error %d at %d, want %d at %d", k.name, s, e, at, want, place)
	}
	if m != k.nothing {
		t.Errorf("%s %x is read as %+v with an error", k.name, s, m)
	}
}

// judges asks whether a message is valid, and whether writing agrees, whose error has no place.
func judges(t *testing.T, k kind, what string, m any, want bool) {
	t.Helper()
	if got := k.right(m); got != want {
		t.Errorf("%s: %s %+v: valid: %v", what, k.name, m, got)
	}
	s, err := k.write(m)
	e, at := plain.Place(err)
	if want && (e != api.OK || len(s) != size) || !want && (e != api.ErrArg || at != none || s != "") {
		t.Errorf("%s: %s %+v is written as %x, error %d at %d", what, k.name, m, s, e, at)
	}
	if want {
		reads(t, k, s, m)
	}
}

// 15.1, 15.2, the example and property 1: the bytes of messages, 110 of them, in both directions.
func TestSamples(t *testing.T) {
	for _, k := range kinds() {
		for _, x := range k.samples {
			want := bytesOf(x.digits)
			if s, err := k.write(x.m); s != want || err != nil || len(s) != size {
				t.Errorf("%s %+v is written as %x, %v, want %x", k.name, x.m, s, err, want)
			}
			reads(t, k, want, x.m)
			judges(t, k, "a sample", x.m, true)
		}
	}
}

// wrong are numbers of which none of so many bytes is one.
func wrong(bytes int) []int {
	over := 1 << (8 * bytes)
	return []int{math.MinInt, -1 << 32, -over, -over + 1, -2, -1, over, over + 1, 2 * over, 1 << 32, 1<<32 + 1, 1 << 48, math.MaxInt}
}

// right are numbers of so many bytes.
func right(bytes int) []int {
	over := 1 << (8 * bytes)
	return []int{0, 1, 2, 0x7f, 0x80, over/2 - 1, over / 2, over - 2, over - 1}
}

// partyFields are how the numbers of a side are set, and how many bytes they have.
func partyFields(side func(l *api.Lacp) *api.Party) map[string]func(l *api.Lacp, x int) int {
	return map[string]func(l *api.Lacp, x int) int{
		"SysPrio":  func(l *api.Lacp, x int) int { side(l).SysPrio = x; return 2 },
		"Key":      func(l *api.Lacp, x int) int { side(l).Key = x; return 2 },
		"PortPrio": func(l *api.Lacp, x int) int { side(l).PortPrio = x; return 2 },
		"Port":     func(l *api.Lacp, x int) int { side(l).Port = x; return 2 },
		"State":    func(l *api.Lacp, x int) int { side(l).State = x; return 1 },
	}
}

// 15.1: each number of a side, and Delay, may be from 0 to its greatest, whatever the others are.
func TestRight(t *testing.T) {
	k := kinds()[0]
	check := func(name string, set func(l *api.Lacp, x int) int) {
		bytes := set(&api.Lacp{}, 0)
		for _, l := range []api.Lacp{{}, all(), most()} {
			for _, x := range right(bytes) {
				set(&l, x)
				judges(t, k, name, l, true)
			}
			for _, x := range wrong(bytes) {
				set(&l, x)
				judges(t, k, name, l, false)
			}
		}
	}
	for name, set := range partyFields(func(l *api.Lacp) *api.Party { return &l.Actor }) {
		check("Actor."+name, set)
	}
	for name, set := range partyFields(func(l *api.Lacp) *api.Party { return &l.Partner }) {
		check("Partner."+name, set)
	}
	check("Delay", func(l *api.Lacp, x int) int { l.Delay = x; return 2 })
}

// 15.2: Port and Txn may be from 0 to their greatest, of a marker and of a reply.
func TestMark(t *testing.T) {
	k := kinds()[1]
	for _, m := range []api.Marker{{}, {Reply: true}, marker(false), marker(true), mostMarker(false), mostMarker(true)} {
		port, txn := m, m
		for _, x := range right(2) {
			port.Port = x
			judges(t, k, "Port", port, true)
		}
		for _, x := range wrong(2) {
			port.Port = x
			judges(t, k, "Port", port, false)
		}
		for _, x := range right(4) {
			txn.Txn = x
			judges(t, k, "Txn", txn, true)
		}
		for _, x := range wrong(4) {
			txn.Txn = x
			judges(t, k, "Txn", txn, false)
		}
	}
}

// 15.1 and 15.2: every State, every Port, and every byte of an address.
func TestEveryNumber(t *testing.T) {
	state, mark := kinds()[0], kinds()[1]
	for x := range 256 {
		l, m := all(), marker(x%2 == 0)
		l.Actor.State, l.Partner.State = x, 255-x
		for i := range l.Actor.Sys {
			l.Actor.Sys[i], l.Partner.Sys[i], m.Sys[i] = byte(x), byte(x+1), byte(x)
			judges(t, state, "addresses", l, true)
			judges(t, mark, "an address", m, true)
		}
	}
	for x := range 65536 {
		l, m := all(), marker(x%2 == 0)
		l.Partner.Port, m.Port = x, x
		judges(t, state, "Port", l, true)
		judges(t, mark, "Port", m, true)
	}
}

// 15.1, 15.2 and P3: each part is missed at its first byte, the reserved ones, too.
func TestEveryCut(t *testing.T) {
	for _, k := range kinds() {
		for _, x := range k.samples {
			for _, p := range k.parts {
				for n := p.at; n < p.at+p.n; n++ {
					refuses(t, k, bytesOf(x.digits)[:n], api.ErrMissing, p.at)
				}
			}
		}
	}
}

// fault is bytes, what is wrong with them, and where.
type fault struct {
	digits string
	want   api.Errno
	place  int
}

// 15.1, with places written out: where parts begin, and that a part that is not there completely is not looked at.
func TestStatePlaces(t *testing.T) {
	const party = "1112 212223242526 3132 4142 5152 61"
	const first = "0101 0114" + party + "010203"
	const both = first + "0214" + party + "ffffff"
	delay := both + "0310 d1d2" + full(12)
	for _, c := range []fault{
		{"", api.ErrMissing, 0}, {"01", api.ErrMissing, 0}, {"02", api.ErrMissing, 0},
		{"0102", api.ErrForm, 0}, {"0201", api.ErrForm, 0}, {"0001", api.ErrForm, 0},
		{"0101", api.ErrMissing, 2}, {"0101 ff", api.ErrMissing, 2}, {"0101 0214", api.ErrForm, 2}, {"0101 0115", api.ErrForm, 2},
		{"0101 0114", api.ErrMissing, 4}, {"0101 0114 1112", api.ErrMissing, 6}, {"0101 0114 1112 212223242526", api.ErrMissing, 12},
		{"0101 0114" + party, api.ErrMissing, 19}, {"0101 0114" + party + "0102", api.ErrMissing, 19},
		{first, api.ErrMissing, 22}, {first + "ff", api.ErrMissing, 22}, {first + "0114", api.ErrForm, 22}, {first + "0214 11", api.ErrMissing, 24},
		{first + "0214" + party + "ffff", api.ErrMissing, 39},
		{both, api.ErrMissing, 42}, {both + "0300", api.ErrForm, 42}, {both + "0310", api.ErrMissing, 44}, {both + "0310 d1d2" + full(11), api.ErrMissing, 46},
		{delay, api.ErrMissing, 58}, {delay + "ff", api.ErrMissing, 58}, {delay + "0001", api.ErrForm, 58},
		{delay + "0000" + full(49), api.ErrMissing, 60}, {delay + "0000" + full(51), api.ErrSpoilt, 110},
	} {
		refuses(t, kinds()[0], bytesOf(c.digits), c.want, c.place)
	}
}

// 15.2, likewise: the third byte and the fourth are looked at one by one.
func TestMarkPlaces(t *testing.T) {
	const asks = "0201 01 10"
	const whole = asks + "1112 212223242526 31323334 ffff"
	for _, c := range []fault{
		{"", api.ErrMissing, 0}, {"02", api.ErrMissing, 0}, {"01", api.ErrMissing, 0}, {"0101", api.ErrForm, 0}, {"0202", api.ErrForm, 0},
		{"0201", api.ErrMissing, 2}, {"0201 00", api.ErrForm, 2}, {"0201 03", api.ErrForm, 2}, {"0201 10", api.ErrForm, 2}, {"0201 03 11", api.ErrForm, 2},
		{"0201 01", api.ErrMissing, 3}, {"0201 02", api.ErrMissing, 3}, {"0201 01 11", api.ErrForm, 3}, {"0201 02 02", api.ErrForm, 3},
		{asks, api.ErrMissing, 4}, {asks + "11", api.ErrMissing, 4}, {asks + "1112 21", api.ErrMissing, 6},
		{asks + "1112 212223242526 313233", api.ErrMissing, 12}, {asks + "1112 212223242526 31323334 ff", api.ErrMissing, 16},
		{whole, api.ErrMissing, 18}, {whole + "01", api.ErrMissing, 18}, {whole + "0100", api.ErrForm, 18},
		{whole + "0000" + full(89), api.ErrMissing, 20}, {whole + "0000" + full(91), api.ErrSpoilt, 110},
	} {
		refuses(t, kinds()[1], bytesOf(c.digits), c.want, c.place)
	}
}

// 15.1 and 15.2: every byte in another's place: a group is refused at its first byte, a reserved byte is ignored, and any other one is read, and (property 1) written in the same way again.
func TestEveryChange(t *testing.T) {
	for _, k := range kinds() {
		for _, x := range k.samples {
			for _, p := range k.parts {
				for at := p.at; at < p.at+p.n; at++ {
					for c := range 256 {
						b := []byte(bytesOf(x.digits))
						b[at] = byte(c)
						checkChange(t, k, x.m, p, string(b), bytesOf(x.digits))
					}
				}
			}
		}
	}
}

// checkChange asks for what is read of bytes whose one part may be another one.
func checkChange(t *testing.T, k kind, m any, p part, s, before string) {
	t.Helper()
	switch {
	case p.reserved:
		reads(t, k, s, m)
	case p.groups != nil && !slices.Contains(p.groups, s[p.at:p.at+p.n]):
		refuses(t, k, s, api.ErrForm, p.at)
		// What follows is not looked at, and needs not be there.
		refuses(t, k, s[:p.at+p.n], api.ErrForm, p.at)
		refuses(t, k, s+"\x01", api.ErrForm, p.at)
	default:
		got, right, err := k.read(s)
		if again, wrong := k.write(got); err != nil || !right || wrong != nil || again != s || (got == m) != (s == before) {
			t.Errorf("%s %x is read as %+v (valid: %v), %v, which is written as %x, %v", k.name, s, got, right, err, again, wrong)
		}
	}
}

// 15.1 and 15.2: of two groups that differ, the first one is told.
func TestFirst(t *testing.T) {
	for _, k := range kinds() {
		for i, p := range k.parts {
			for _, q := range k.parts[i+1:] {
				if p.groups == nil || q.groups == nil {
					continue
				}
				b := []byte(bytesOf(k.samples[0].digits))
				b[p.at], b[q.at] = 0x77, 0x77
				refuses(t, k, string(b), api.ErrForm, p.at)
				refuses(t, k, string(b[:q.at+1]), api.ErrForm, p.at)
			}
		}
	}
}

// 15.1 and 15.2: reserved bytes may be any, all of them, and are written as 0.
func TestReserved(t *testing.T) {
	source := rand.New(rand.NewSource(15))
	for _, k := range kinds() {
		for _, x := range k.samples {
			for range 200 {
				b := []byte(bytesOf(x.digits))
				for _, p := range k.parts {
					if p.reserved {
						source.Read(b[p.at : p.at+p.n])
					}
				}
				reads(t, k, string(b), x.m)
				reads(t, k, string(b)+"\x00", x.m)
				refuses(t, k, string(b)+"\x00\x01", api.ErrSpoilt, size+1)
			}
		}
	}
}

// 15.1 and 15.2: behind a message there may be zeros, however many; any other byte is told at its position.
func TestBehind(t *testing.T) {
	for _, k := range kinds() {
		for _, x := range k.samples {
			s := bytesOf(x.digits)
			for _, n := range []int{0, 1, 2, 14, 50, 5000} {
				zeros := strings.Repeat("\x00", n)
				reads(t, k, s+zeros, x.m)
				for c := 1; c < 256; c++ {
					refuses(t, k, s+zeros+string([]byte{byte(c)}), api.ErrSpoilt, size+n)
				}
				refuses(t, k, s+zeros+"\x80"+zeros+"\x01", api.ErrSpoilt, size+n)
			}
		}
	}
}

// 15.1 and 15.2: a message of one kind is none of the other.
func TestOtherKind(t *testing.T) {
	for i, k := range kinds() {
		for _, x := range kinds()[1-i].samples {
			refuses(t, k, bytesOf(x.digits), api.ErrForm, 0)
		}
	}
}

// 15.2: the answer has all that the marker has; an answer has none, without a place. (Be the numbers such that they may be, or not.)
func TestAnswer(t *testing.T) {
	for _, m := range []api.Marker{{}, marker(false), mostMarker(false), {Port: 7}, {Txn: 9}, {Sys: api.Addr{5: 1}}, {Port: -1, Txn: 3}, {Port: 65536, Txn: 1 << 32}} {
		want := m
		want.Reply = true
		got, err := lacp.Answer(m)
		if got != want || err != nil || lacp.Mark(got) != lacp.Mark(m) {
			t.Errorf("Answer(%+v) = %+v, %v", m, got, err)
		}
		again, err := lacp.Answer(got)
		if e, at := plain.Place(err); e != api.ErrState || at != none || again != (api.Marker{}) {
			t.Errorf("Answer(%+v) = %+v, error %d at %d", got, again, e, at)
		}
	}
}

// 15.2: as bytes, a marker and its answer differ in the third byte only.
func TestAnswerBytes(t *testing.T) {
	for _, m := range []api.Marker{{}, marker(false), mostMarker(false)} {
		asked, _ := lacp.WriteMark(m)
		reply, _ := lacp.Answer(m)
		told, err := lacp.WriteMark(reply)
		if err != nil || asked[:3] != "\x02\x01\x01" || told[:3] != "\x02\x01\x02" || asked[3:] != told[3:] {
			t.Errorf("%+v is written as %x, and its answer as %x, %v", m, asked, told, err)
		}
	}
}

// Property 1: what is written is read back.
func TestReadBack(t *testing.T) {
	source := rand.New(rand.NewSource(110))
	addr := func() (a api.Addr) {
		source.Read(a[:])
		return a
	}
	number := func() int { return source.Intn(1 << 16) }
	party := func() api.Party {
		return api.Party{SysPrio: number(), Sys: addr(), Key: number(), PortPrio: number(), Port: number(), State: source.Intn(256)}
	}
	state, mark := kinds()[0], kinds()[1]
	for range 20000 {
		judges(t, state, "drawn", api.Lacp{Actor: party(), Partner: party(), Delay: number()}, true)
		judges(t, mark, "drawn", api.Marker{Reply: source.Intn(2) == 0, Port: number(), Sys: addr(), Txn: source.Intn(1 << 32)}, true)
	}
}

// P1: no text makes a call panic; an error has a place, and what has none is valid.
func TestDrawn(t *testing.T) {
	source := rand.New(rand.NewSource(1))
	for range 20000 {
		b := make([]byte, source.Intn(130))
		for i := range b {
			b[i] = []byte{0, 1, 2, 3, 0x10, 0x14, byte(source.Intn(256))}[source.Intn(7)]
		}
		for _, k := range kinds() {
			begin := bytesOf(k.samples[0].digits)[:source.Intn(size+1)]
			for _, s := range []string{string(b), begin + string(b)} {
				m, right, err := k.read(s)
				if _, at := plain.Place(err); err == nil && !right || err != nil && (at < 0 || at > len(s) || m != k.nothing) {
					t.Errorf("%s %x is read as %+v (valid: %v), %v at %d", k.name, s, m, right, err, at)
				}
			}
		}
	}
}
