package arp_test

import (
	"encoding/hex"
	"math"
	"strings"
	"testing"

	"switchyard/api"
	"switchyard/arp"
	"switchyard/plain"
)

// none is the place of an error that has none.
const none = -1

// head is what a message begins with, and addrs are its addresses here.
const (
	head  = "00 01 08 00 06 04 "
	addrs = "0a0b0c0d0e0f c0a80001 010203040506 c0a80002"
)

// bytesOf are those that digits tell; blanks are for the reader.
func bytesOf(digits string) string {
	b, err := hex.DecodeString(strings.ReplaceAll(digits, " ", ""))
	if err != nil {
		panic(digits)
	}
	return string(b)
}

// with is a message with the addresses of addrs.
func with(op int) api.Arp {
	return api.Arp{
		Op:  op,
		Sha: api.Addr{10, 11, 12, 13, 14, 15}, Spa: [4]byte{192, 168, 0, 1},
		Tha: api.Addr{1, 2, 3, 4, 5, 6}, Tpa: [4]byte{192, 168, 0, 2},
	}
}

// samples are messages, and their bytes.
var samples = []struct {
	a      api.Arp
	digits string
}{
	{with(1), head + "0001" + addrs},
	{with(2), head + "0002" + addrs},
	{api.Arp{Op: 1}, head + "0001 000000000000 00000000 000000000000 00000000"},
	{api.Arp{Op: 2, Sha: api.Addr{1}}, head + "0002 010000000000 00000000 000000000000 00000000"},
	{api.Arp{Op: 2, Spa: [4]byte{0, 0, 0, 255}}, head + "0002 000000000000 000000ff 000000000000 00000000"},
	{api.Arp{Op: 1, Tha: api.Addr{255, 255, 255, 255, 255, 255}}, head + "0001 000000000000 00000000 ffffffffffff 00000000"},
	{api.Arp{Op: 1, Tpa: [4]byte{127, 0, 0, 128}}, head + "0001 000000000000 00000000 000000000000 7f000080"},
}

// wrongOps are those that no message has.
var wrongOps = []int{math.MinInt, -65535, -2, -1, 0, 3, 4, 255, 256, 257, 512, 65535, 65537, 65538, 1<<32 + 1, 1<<32 + 2, math.MaxInt}

// reads asks Read for a message.
func reads(t *testing.T, s string, want api.Arp) {
	t.Helper()
	if a, err := arp.Read(s); a != want || err != nil {
		t.Errorf("Read(%x) = %v, %v, want %v", s, a, err, want)
	}
}

// fails asks for an error, with its place, and for no message with it.
func fails(t *testing.T, what string, a api.Arp, err error, want api.Errno, place int) {
	t.Helper()
	if e, at := plain.Place(err); e != want || at != place {
		t.Errorf("%s: error %d at %d, want %d at %d", what, e, at, want, place)
	}
	if a != (api.Arp{}) {
		t.Errorf("%s: %v with an error", what, a)
	}
}

// refuses asks Read for an error with its place.
func refuses(t *testing.T, s string, want api.Errno, place int) {
	t.Helper()
	a, err := arp.Read(s)
	fails(t, "Read of "+hex.EncodeToString([]byte(s)), a, err, want, place)
}

// 6.1: a message may be if it asks or answers; its addresses may be any.
func TestRight(t *testing.T) {
	for _, x := range samples {
		if !arp.Right(x.a) {
			t.Errorf("Right(%v) = false", x.a)
		}
	}
	for _, op := range wrongOps {
		for _, a := range []api.Arp{{Op: op}, with(op)} {
			if arp.Right(a) {
				t.Errorf("Right(%v) = true", a)
			}
		}
	}
}

// 6.1: the bytes of messages, in both directions.
func TestSamples(t *testing.T) {
	for _, x := range samples {
		want := bytesOf(x.digits)
		if s, err := arp.Write(x.a); s != want || err != nil || len(s) != 28 {
			t.Errorf("Write(%v) = %x, %v, want %x", x.a, s, err, want)
		}
		reads(t, want, x.a)
	}
}

// 6.1: what may not be is not written; the error has no place.
func TestWriteRefuses(t *testing.T) {
	for _, op := range wrongOps {
		for _, a := range []api.Arp{{Op: op}, with(op)} {
			s, err := arp.Write(a)
			if e, at := plain.Place(err); e != api.ErrArg || at != none || s != "" {
				t.Errorf("Write(%v) = %x, error %d at %d, want ErrArg without a place", a, s, e, at)
			}
		}
	}
}

// 6.1: behind a message there may be zeros, however many.
func TestReadPadded(t *testing.T) {
	for _, x := range samples {
		for _, n := range []int{1, 2, 18, 32, 10000} {
			reads(t, bytesOf(x.digits)+strings.Repeat("\x00", n), x.a)
		}
	}
}

// 6.1: each error, and its place; the first one in the order of reading is told.
func TestReadErrors(t *testing.T) {
	for _, c := range []struct {
		digits string
		want   api.Errno
		place  int
	}{
		// The first six bytes are missed as a whole, before they are looked at.
		{"", api.ErrMissing, 0},
		{"00", api.ErrMissing, 0},
		{"00 01 08 00 06", api.ErrMissing, 0},
		{"ff ff ff ff ff", api.ErrMissing, 0},
		{"ff ff ff ff ff ff", api.ErrForm, 0},
		{"00 00 00 00 00 00 0001" + addrs, api.ErrForm, 0},
		{"00 06 08 00 06 04 0001" + addrs, api.ErrForm, 0},
		{"01 00 00 08 06 04 0001" + addrs, api.ErrForm, 0},
		{"00 01 86 dd 06 10 0001" + addrs, api.ErrForm, 0},
		{"00 01 08 00 06 05 0003", api.ErrForm, 0},
		{"00 01 08 00 07 04", api.ErrForm, 0},
		{"00 00 01 08 00 06 04 0001" + addrs, api.ErrForm, 0},
		// Op.
		{head, api.ErrMissing, 6},
		{head + "00", api.ErrMissing, 6},
		{head + "ff", api.ErrMissing, 6},
		{head + "0000", api.ErrRange, 6},
		{head + "0003", api.ErrRange, 6},
		{head + "0100" + addrs, api.ErrRange, 6},
		{head + "0200" + addrs, api.ErrRange, 6},
		{head + "0101" + addrs, api.ErrRange, 6},
		{head + "ffff" + addrs + "01", api.ErrRange, 6},
		// The addresses.
		{head + "0001", api.ErrMissing, 8},
		{head + "0001 0a0b0c0d0e", api.ErrMissing, 8},
		{head + "0002 0a0b0c0d0e0f", api.ErrMissing, 14},
		{head + "0002 0a0b0c0d0e0f c0a800", api.ErrMissing, 14},
		{head + "0001 0a0b0c0d0e0f c0a80001", api.ErrMissing, 18},
		{head + "0001 0a0b0c0d0e0f c0a80001 0102030405", api.ErrMissing, 18},
		{head + "0002 0a0b0c0d0e0f c0a80001 010203040506", api.ErrMissing, 24},
		{head + "0002 0a0b0c0d0e0f c0a80001 010203040506 c0a800", api.ErrMissing, 24},
		// What follows.
		{head + "0001" + addrs + "01", api.ErrSpoilt, 28},
		{head + "0001" + addrs + "80 00", api.ErrSpoilt, 28},
		{head + "0002" + addrs + "00 00 ff 01", api.ErrSpoilt, 30},
		{head + "0002" + addrs + "00 00 00 00 00 00 00 00 00 20", api.ErrSpoilt, 37},
	} {
		refuses(t, bytesOf(c.digits), c.want, c.place)
	}
}

// 6.1: each part is missed at its first byte.
func TestEveryCut(t *testing.T) {
	for _, x := range samples {
		s := bytesOf(x.digits)
		for n := range len(s) {
			place := 0
			for _, first := range []int{0, 6, 8, 14, 18, 24} {
				if first <= n {
					place = first
				}
			}
			refuses(t, s[:n], api.ErrMissing, place)
		}
	}
}

// 6.1: of all Ops, 1 and 2 are read.
func TestReadEveryOp(t *testing.T) {
	for op := range 1 << 16 {
		s := bytesOf(head) + string([]byte{byte(op >> 8), byte(op)}) + bytesOf(addrs)
		if op == 1 || op == 2 {
			reads(t, s, with(op))
			continue
		}
		refuses(t, s, api.ErrRange, 6)
	}
}

// 6.1 and property 1: whatever byte is put in another's place, what is read is valid and is written in the same way again.
func TestEveryChange(t *testing.T) {
	for _, x := range samples {
		s := bytesOf(x.digits)
		for i := range s {
			for c := range 256 {
				b := []byte(s)
				b[i] = byte(c)
				changed := string(b)
				op := int(b[6])<<8 + int(b[7])
				switch {
				case changed[:6] != bytesOf(head):
					refuses(t, changed, api.ErrForm, 0)
				case op != 1 && op != 2:
					refuses(t, changed, api.ErrRange, 6)
				default:
					a, err := arp.Read(changed)
					again, _ := arp.Write(a)
					if err != nil || !arp.Right(a) || again != changed {
						t.Errorf("Read(%x) = %v, %v, which is written as %x", changed, a, err, again)
					}
				}
			}
		}
	}
}

// 6.1: the answer comes from whoever was asked for, to whoever asks.
func TestReply(t *testing.T) {
	mine := api.Addr{2, 4, 6, 8, 10, 12}
	for _, x := range samples {
		a, err := arp.Reply(x.a, mine)
		if x.a.Op != 1 {
			fails(t, "Reply to a reply", a, err, api.ErrState, none)
			continue
		}
		want := api.Arp{Op: 2, Sha: mine, Spa: x.a.Tpa, Tha: x.a.Sha, Tpa: x.a.Spa}
		if a != want || err != nil || !arp.Right(a) {
			t.Errorf("Reply(%v) = %v, %v, want %v", x.a, a, err, want)
		}
	}
}

// 6.1, the example, with all fields told apart; and whose address it is does not matter.
func TestReplyExample(t *testing.T) {
	for _, mine := range []api.Addr{{}, {9, 9, 9, 9, 9, 9}, {1, 2, 3, 4, 5, 6}, {255, 255, 255, 255, 255, 255}} {
		a, err := arp.Reply(with(1), mine)
		if a.Tha != (api.Addr{10, 11, 12, 13, 14, 15}) || a.Tpa != [4]byte{192, 168, 0, 1} || err != nil {
			t.Errorf("the reply is to %v, %v; %v", a.Tha, a.Tpa, err)
		}
		if a.Op != 2 || a.Sha != mine || a.Spa != [4]byte{192, 168, 0, 2} {
			t.Errorf("the reply is %d from %v, %v", a.Op, a.Sha, a.Spa)
		}
	}
}

// 6.1: what asks for nothing, be it a message that may be or not, has no answer; the error has no place.
func TestReplyRefuses(t *testing.T) {
	for _, op := range append([]int{2}, wrongOps...) {
		for _, x := range []api.Arp{{Op: op}, with(op)} {
			a, err := arp.Reply(x, api.Addr{1})
			fails(t, "Reply", a, err, api.ErrState, none)
		}
	}
}
