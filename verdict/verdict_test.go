package verdict_test

import (
	"encoding/hex"
	"fmt"
	"math"
	"math/rand"
	"reflect"
	"slices"
	"strings"
	"testing"

	"switchyard/api"
	"switchyard/arp"
	"switchyard/bpdu"
	"switchyard/frame"
	"switchyard/lacp"
	"switchyard/lldp"
	"switchyard/mstp"
	"switchyard/mvrp"
	"switchyard/pause"
	"switchyard/plain"
	"switchyard/verdict"
)

// none is the place of an error that has none.
const none = -1

// bytesOf are those that digits tell; blanks are for the reader.
func bytesOf(digits string) string {
	b, err := hex.DecodeString(strings.ReplaceAll(digits, " ", ""))
	if err != nil {
		panic(digits)
	}
	return string(b)
}

// zeros are so many.
func zeros(n int) string { return strings.Repeat("\x00", n) }

// show is the beginning of a verdict as text.
func show(v api.Verdict) string { return fmt.Sprintf("%.600s", fmt.Sprintf("%+v", v)) }

// known is 01:80:c2:00:00 and a byte; station and other are addresses of one, and group is one of many.
func known(n int) api.Addr { return api.Addr{0x01, 0x80, 0xc2, 0, 0, byte(n)} }

var (
	station = api.Addr{0x02, 0, 0, 0, 0, 7}
	other   = api.Addr{0x02, 0, 0, 0, 0, 8}
	group   = api.Addr{0x01, 0, 0x5e, 0, 0, 1}
)

// kind is what the document tells of a kind of verdicts: the field that its message is in, which frames have it, to which known addresses they are (nil: any), whether they may have tags, and how the message is read and written.
type kind struct {
	field  string
	is     func(f api.Frame) bool
	groups []int
	tags   bool
	read   func(v *api.Verdict, body string) error
	write  func(v api.Verdict) (string, error)
}

// ether says of frames whether they have this type, and tree whether they are of the spanning tree.
func ether(n int) func(f api.Frame) bool {
	return func(f api.Frame) bool { return f.Kind == api.Ether && f.Type == n }
}
func tree(f api.Frame) bool {
	return f.Kind == api.Llc && f.Dsap == 0x42 && f.Ssap == 0x42 && f.Ctl == 3
}

// kinds are all with a message. Which of two that a protocol has is not told here.
func kinds() map[int]kind {
	return map[int]kind{
		api.IsArp: {"Arp", ether(0x0806), nil, true,
			func(v *api.Verdict, s string) (err error) { v.Arp, err = arp.Read(s); return err },
			func(v api.Verdict) (string, error) { return arp.Write(v.Arp) }},
		api.IsPause: {"Pause", ether(0x8808), []int{1}, false,
			func(v *api.Verdict, s string) (err error) { v.Pause, err = pause.Read(s); return err },
			func(v api.Verdict) (string, error) { return pause.Write(v.Pause) }},
		api.IsBpdu: {"Bpdu", tree, []int{0}, false,
			func(v *api.Verdict, s string) (err error) { v.Bpdu, err = bpdu.Read(s); return err },
			func(v api.Verdict) (string, error) { return bpdu.Write(v.Bpdu) }},
		api.IsMst: {"Mst", tree, []int{0}, false,
			func(v *api.Verdict, s string) (err error) { v.Mst, err = mstp.Read(s); return err },
			func(v api.Verdict) (string, error) { return mstp.Write(v.Mst) }},
		api.IsLldp: {"Lldp", ether(0x88cc), []int{0, 3, 14}, false,
			func(v *api.Verdict, s string) (err error) { v.Lldp, err = lldp.Read(s); return err },
			func(v api.Verdict) (string, error) { return lldp.Write(v.Lldp) }},
		api.IsLacp: {"Lacp", ether(0x8809), []int{2}, false,
			func(v *api.Verdict, s string) (err error) { v.Lacp, err = lacp.Read(s); return err },
			func(v api.Verdict) (string, error) { return lacp.Write(v.Lacp) }},
		api.IsMarker: {"Marker", ether(0x8809), []int{2}, false,
			func(v *api.Verdict, s string) (err error) { v.Marker, err = lacp.ReadMark(s); return err },
			func(v api.Verdict) (string, error) { return lacp.WriteMark(v.Marker) }},
		api.IsMvrp: {"Mvrp", ether(0x88f5), []int{33}, false,
			func(v *api.Verdict, s string) (err error) { v.Mvrp, err = mvrp.Read(s); return err },
			func(v api.Verdict) (string, error) { return mvrp.Write(v.Mvrp) }},
	}
}

// isAddressed says whether a frame of a kind may be to an address.
func (k kind) isAddressed(a api.Addr) bool {
	return k.groups == nil || slices.ContainsFunc(k.groups, func(n int) bool { return a == known(n) })
}

// sample is a verdict, and its frame: the digits of what stands ahead of the Body, and the Body, without the zeros that fill it up.
type sample struct {
	v    api.Verdict
	head string
	body string
}

// bytes are those of a sample's frame.
func (x sample) bytes() string {
	s := bytesOf(x.head) + x.body
	if x.v.Kind != api.Data && len(s) < 60 {
		s += zeros(60 - len(s))
	}
	return s
}

// etherTo is a frame with a type, and llcTo one of the spanning tree.
func etherTo(dst api.Addr, n int, tags ...api.Tag) api.Frame {
	return api.Frame{Dst: dst, Src: station, Tags: tags, Kind: api.Ether, Type: n}
}
func llcTo(dst api.Addr) api.Frame {
	return api.Frame{Dst: dst, Src: station, Kind: api.Llc, Dsap: 0x42, Ssap: 0x42, Ctl: 3}
}

// with is a frame with a Body.
func with(f api.Frame, body string) api.Frame {
	f.Body = body
	return f
}

// What is ahead of the Body: to another station, to many, and to a known address.
const (
	toOther = "020000000008 020000000007"
	toGroup = "01005e000001 020000000007"
	toKnown = "0180c20000"
	from    = "020000000007"
)

// dataSamples are frames without protocol.
func dataSamples() []sample {
	data := func(f api.Frame, head, body string) sample {
		return sample{api.Verdict{Kind: api.Data, Frame: with(f, body)}, head, body}
	}
	customer, service := api.Tag{Pcp: 3, Dei: true, Vid: 5}, api.Tag{S: true, Vid: 4094}
	llc := func(dst api.Addr, dsap, ssap, ctl int) api.Frame {
		return api.Frame{Dst: dst, Src: station, Kind: api.Llc, Dsap: dsap, Ssap: ssap, Ctl: ctl}
	}
	snap := api.Frame{Dst: group, Src: station, Kind: api.Snap, Pid: 0x0806}
	return []sample{
		data(etherTo(group, 0x0800), toGroup+"0800", "text"), // the example
		data(etherTo(other, 0x0800), toOther+"0800", ""),
		data(etherTo(other, 0x0600), toOther+"0600", "text"+zeros(3)),
		data(etherTo(other, 0x9000, customer), toOther+"8100 7005 9000", "text"),
		data(etherTo(other, 0x9000, service, customer), toOther+"88a8 0ffe 8100 7005 9000", "text"),
		data(etherTo(known(16), 0x88cd), toKnown+"10"+from+"88cd", "\x02\x01"),
		data(etherTo(known(33), 0x0800), toKnown+"21"+from+"0800", zeros(46)),
		data(etherTo(api.Addr{}, 0xffff), "000000000000"+from+"ffff", strings.Repeat("b", 1986)),
		data(llc(other, 0x42, 0x42, 2), toOther+"0007 42 42 02", bytesOf("00000302")),
		data(llc(group, 0, 0, 0), toGroup+"0003 00 00 00", ""),
		data(llc(group, 0xaa, 0xaa, 2), toGroup+"05dc aa aa 02", strings.Repeat("b", 1497)),
		data(snap, toGroup+"000c aa aa 03 000000 0806", "text"),
	}
}

// written are the bytes of a message.
func written(s string, err error) string {
	if err != nil {
		panic(err)
	}
	return s
}

// Messages, with something in all that they have.
func arpMessage() api.Arp {
	return api.Arp{Op: 2, Sha: station, Spa: [4]byte{10, 0, 0, 1}, Tha: other, Tpa: [4]byte{10, 0, 0, 2}}
}

func bpduMessage(kind int) api.Bpdu {
	if kind == api.Notice {
		return api.Bpdu{Kind: kind}
	}
	return api.Bpdu{
		Kind: kind, Flags: api.Flags{Change: true, Ack: true}, Root: api.Bridge{Prio: 4096, Ext: 1, Addr: station}, Cost: 2000,
		Sender: api.Bridge{Prio: 32768, Addr: other}, Port: api.Port{Prio: 128, No: 2}, Age: 256, Max: 5120, Hello: 512, Wait: 3840,
	}
}

func mstMessage(insts int) api.Mst {
	m := api.Mst{
		Base: bpduMessage(api.Rapid), Name: "north", Rev: 1, Digest: strings.Repeat("d", 16), Cost: 7,
		Bridge: api.Bridge{Prio: 8192, Addr: station}, Hops: 20,
	}
	for i := range insts {
		m.Insts = append(m.Insts, api.Inst{Flags: api.Flags{Role: 3}, Root: m.Bridge, Cost: i, Bridge: i % 16, Port: 8, Hops: 19})
	}
	return m
}

func leastLldp() api.Lldp {
	return api.Lldp{Chassis: api.Name{Sub: 7, ID: "c"}, Port: api.Name{Sub: 5, ID: "p"}}
}

func lldpMessage() api.Lldp {
	manage := api.Manage{Addr: api.Name{Sub: 1, ID: "\x0a\x00\x00\x01"}, IfSub: 2, If: 3, Oid: "oid"}
	return api.Lldp{
		Chassis: api.Name{Sub: 4, ID: string(station[:])}, Port: api.Name{Sub: 7, ID: "2"}, Ttl: 120,
		Desc: []string{"desc"}, Host: []string{""}, System: []string{"system"}, Caps: []api.Caps{{Has: 20, On: 4}},
		Manage: []api.Manage{manage, manage}, Orgs: []api.Org{{Oui: 0x0080c2, Sub: 1, Info: "\x00\x01"}, {Info: ""}},
	}
}

func lacpMessage() api.Lacp {
	return api.Lacp{
		Actor:   api.Party{SysPrio: 32768, Sys: station, Key: 1, PortPrio: 128, Port: 2, State: 61},
		Partner: api.Party{SysPrio: 32769, Sys: other, Key: 3, PortPrio: 129, Port: 4, State: 5}, Delay: 6,
	}
}

func markerMessage(reply bool) api.Marker {
	return api.Marker{Reply: reply, Port: 2, Sys: station, Txn: 9}
}

func mvrpMessage() []api.Attr {
	return []api.Attr{{First: 10, Events: []int{1, 2, 3, 4}}, {LeaveAll: true}, {LeaveAll: true, First: 9, Events: []int{5}}}
}

// arpSamples have tags, and have none.
func arpSamples() []sample {
	a := arpMessage()
	body := bytesOf("0001 0800 06 04 0002 020000000007 0a000001 020000000008 0a000002")
	var l []sample
	for _, x := range []struct {
		dst  api.Addr
		tags []api.Tag
		head string
	}{
		{other, nil, toOther + "0806"},
		{group, nil, toGroup + "0806"},
		{known(0), nil, toKnown + "00" + from + "0806"},
		{known(15), nil, toKnown + "0f" + from + "0806"},
		{other, []api.Tag{{Vid: 9}}, toOther + "8100 0009 0806"},
		{other, []api.Tag{{S: true, Vid: 9}}, toOther + "88a8 0009 0806"},
		{known(14), []api.Tag{{S: true}, {Pcp: 7}}, toKnown + "0e" + from + "88a8 0000 8100 e000 0806"},
	} {
		l = append(l, sample{api.Verdict{Kind: api.IsArp, Frame: etherTo(x.dst, 0x0806, x.tags...), Arp: a}, x.head, body})
	}
	return l
}

// messageSamples are the others, at least one of each kind.
func messageSamples() []sample {
	var l []sample
	add := func(v api.Verdict, head, body string) { l = append(l, sample{v, head, body}) }
	for _, p := range []api.Pause{{Times: [8]int{500}}, {Pfc: true, Enable: 9, Times: [8]int{3, 0, 0, 500, 0, 0, 0, 65535}}} {
		add(api.Verdict{Kind: api.IsPause, Frame: etherTo(known(1), 0x8808), Pause: p}, toKnown+"01"+from+"8808", written(pause.Write(p)))
	}
	for i, size := range []string{"0026", "0007", "0027"} {
		b := bpduMessage([]int{api.Config, api.Notice, api.Rapid}[i])
		add(api.Verdict{Kind: api.IsBpdu, Frame: llcTo(known(0)), Bpdu: b}, toKnown+"00"+from+size+"42 42 03", written(bpdu.Write(b)))
	}
	for i, size := range []string{"0069", "0079", "0089", "0469"} {
		m := mstMessage([]int{0, 1, 2, 64}[i])
		add(api.Verdict{Kind: api.IsMst, Frame: llcTo(known(0)), Mst: m}, toKnown+"00"+from+size+"42 42 03", written(mstp.Write(m)))
	}
	for i, last := range []string{"00", "03", "0e"} {
		f := etherTo(known([]int{0, 3, 14}[i]), 0x88cc)
		for _, u := range []api.Lldp{leastLldp(), lldpMessage()} {
			add(api.Verdict{Kind: api.IsLldp, Frame: f, Lldp: u}, toKnown+last+from+"88cc", written(lldp.Write(u)))
		}
	}
	slow := etherTo(known(2), 0x8809)
	for _, x := range []api.Lacp{{}, lacpMessage()} {
		add(api.Verdict{Kind: api.IsLacp, Frame: slow, Lacp: x}, toKnown+"02"+from+"8809", written(lacp.Write(x)))
	}
	for _, m := range []api.Marker{{}, markerMessage(false), markerMessage(true)} {
		add(api.Verdict{Kind: api.IsMarker, Frame: slow, Marker: m}, toKnown+"02"+from+"8809", written(lacp.WriteMark(m)))
	}
	for _, a := range [][]api.Attr{nil, mvrpMessage()} {
		add(api.Verdict{Kind: api.IsMvrp, Frame: etherTo(known(33), 0x88f5), Mvrp: a}, toKnown+"21"+from+"88f5", written(mvrp.Write(a)))
	}
	return l
}

// samples are all.
func samples() []sample { return slices.Concat(dataSamples(), arpSamples(), messageSamples()) }

// takes asks for a verdict, which is that of a frame that may be.
func takes(t *testing.T, s string, want api.Verdict) {
	t.Helper()
	if v := verdict.Classify(s); !equals(v, want) || !verdict.Right(v) {
		t.Errorf("Classify(%.100x) = %s, want %s", s, show(v), show(want))
	}
}

// refuses asks for the verdict Bad, with what is wrong, and where, and nothing else.
func refuses(t *testing.T, s string, want api.Errno, place int) {
	t.Helper()
	if v := verdict.Classify(s); !equals(v, api.Verdict{Err: want, Place: place}) || verdict.Right(v) {
		t.Errorf("Classify(%.100x) = %s, want error %d at %d", s, show(v), want, place)
	}
}

// gives asks for a verdict's frame, which has this verdict.
func gives(t *testing.T, v api.Verdict, want string) {
	t.Helper()
	if s, err := verdict.Encode(v); s != want || err != nil || !verdict.Right(v) {
		t.Errorf("Encode(%s) = %x, %v, want %x", show(v), s, err, want)
	}
	takes(t, want, v)
}

// gone asks for a verdict without a frame: for an error without a place.
func gone(t *testing.T, what string, v api.Verdict) {
	t.Helper()
	s, err := verdict.Encode(v)
	if e, at := plain.Place(err); e != api.ErrArg || at != none || s != "" || verdict.Right(v) {
		t.Errorf("%s: Encode(%s) = %.100x, error %d at %d", what, show(v), s, e, at)
	}
}

// 17.2, 17.3 and the example: the frames of verdicts, in both directions; all but Data are filled up to MinFrame.
func TestSamples(t *testing.T) {
	for _, x := range samples() {
		gives(t, x.v, x.bytes())
	}
}

// 17.2: zeros behind a message are no matter; neither are those behind the inner length.
func TestLonger(t *testing.T) {
	for _, x := range samples() {
		s := bytesOf(x.head) + x.body
		if x.v.Kind == api.Data && x.v.Frame.Kind == api.Ether {
			continue
		}
		for _, n := range []int{0, 1, 100, 2000 - len(s)} {
			if n >= 0 && len(s)+n <= 2000 {
				takes(t, s+zeros(n), x.v)
			}
		}
	}
}

// 17.1: which types are a protocol's: of frames to a station, all others are Data.
func TestEveryType(t *testing.T) {
	body := zeros(46)
	for n := 1536; n < 65536; n++ {
		if n == 0x8100 || n == 0x88a8 {
			continue
		}
		f := with(etherTo(other, n), body)
		s := written(frame.Write(f))
		switch n {
		case 0x0806:
			refuses(t, s, api.ErrForm, 14)
			gone(t, "ARP", api.Verdict{Kind: api.Data, Frame: f})
		case 0x8808, 0x8809, 0x88cc, 0x88f5:
			refuses(t, s, api.ErrName, 0)
			gone(t, "a protocol", api.Verdict{Kind: api.Data, Frame: f})
		default:
			gives(t, api.Verdict{Kind: api.Data, Frame: f}, s)
		}
	}
}

// 17.1: only an Llc frame with 42, 42, 03 is of the spanning tree, and no Snap frame is of a protocol.
func TestEveryLlc(t *testing.T) {
	s := written(frame.Write(with(llcTo(other), "\x00\x00\x00\x80")))
	refuses(t, s, api.ErrName, 0)
	for i := 14; i < 17; i++ {
		for c := range 256 {
			b := []byte(s)
			b[i] = byte(c)
			if string(b) == s {
				continue
			}
			f, err := frame.Read(string(b))
			if err != nil {
				t.Fatal(err)
			}
			gives(t, api.Verdict{Kind: api.Data, Frame: f}, string(b))
		}
	}
	for _, pid := range []int{0, 0x0806, 0x8808, 0x8809, 0x88cc, 0x88f5, 0x4242} {
		for _, oui := range []int{0, 0xf8, 0x424203} {
			f := api.Frame{Dst: other, Src: station, Kind: api.Snap, Oui: oui, Pid: pid, Body: "\x02\x01"}
			gives(t, api.Verdict{Kind: api.Data, Frame: f}, written(frame.Write(f)))
		}
	}
}

// addrs are all known addresses, those that differ from one of them in a byte, and some others.
func addrs() []api.Addr {
	l := []api.Addr{{}, station, other, group, {0xff, 0xff, 0xff, 0xff, 0xff, 0xff}}
	for n := range 256 {
		l = append(l, known(n))
	}
	for n := range 40 {
		for i := range 5 {
			a := known(n)
			a[i] ^= 1 << (n % 8)
			l = append(l, a)
		}
	}
	return l
}

// 17.1, 17.2: to which addresses the frames of each protocol may be, and those without one: to all that are not Reserved.
func TestEveryAddress(t *testing.T) {
	for _, x := range samples() {
		for _, a := range addrs() {
			v := x.v
			v.Frame.Dst = a
			s := string(a[:]) + x.bytes()[6:]
			right := kinds()[v.Kind].isAddressed(a)
			if v.Kind == api.Data {
				right = a[5] > 15 || a != known(int(a[5]))
			}
			if right {
				gives(t, v, s)
			} else {
				refuses(t, s, api.ErrName, 0)
				gone(t, "an address", v)
			}
		}
	}
}

// tagged is a text with the bytes of tags behind both addresses.
func tagged(s, digits string) string { return s[:12] + bytesOf(digits) + s[12:] }

// 17.2: a tag with a protocol other than ARP: it is told behind a wrong address, and before the message; and a wrong tag before both.
func TestTags(t *testing.T) {
	for _, x := range messageSamples() {
		for _, c := range []struct {
			digits string
			tags   []api.Tag
		}{
			{"8100 0000", []api.Tag{{}}},
			{"8100 0005", []api.Tag{{Vid: 5}}},
			{"88a8 effe", []api.Tag{{S: true, Pcp: 7, Vid: 4094}}},
			{"88a8 0001 8100 0002", []api.Tag{{S: true, Vid: 1}, {Vid: 2}}},
		} {
			s := tagged(x.bytes(), c.digits)
			refuses(t, s, api.ErrOrder, 12)
			if x.v.Frame.Kind == api.Ether {
				head := s[:len(bytesOf(x.head))+4*len(c.tags)]
				refuses(t, head, api.ErrOrder, 12)
				refuses(t, head+"\x77\x77", api.ErrOrder, 12)
			}
			refuses(t, string(other[:])+s[6:], api.ErrName, 0)
			v := x.v
			v.Frame.Tags = c.tags
			gone(t, "tags", v)
		}
		s := string(other[:]) + x.bytes()[6:]
		refuses(t, tagged(s, "88a8 ffff"), api.ErrForm, 14)
		refuses(t, tagged(s, "8100 0001 8100 0001"), api.ErrOrder, 16)
	}
}

// 17.2: the errors of frame.Read come first, at their places.
func TestFrameErrors(t *testing.T) {
	for _, x := range samples() {
		s := x.bytes()
		for n := range len(bytesOf(x.head)) {
			_, err := frame.Read(s[:n])
			e, at := plain.Place(err)
			if e != api.ErrMissing {
				t.Fatal(e)
			}
			refuses(t, s[:n], e, at)
		}
		refuses(t, s+zeros(2001-len(s)), api.ErrLimit, 2000)
	}
	refuses(t, "", api.ErrMissing, 0)
	refuses(t, bytesOf(toOther)+"\x81", api.ErrMissing, 12)
	refuses(t, bytesOf(toOther+"05dd")+zeros(1501), api.ErrRange, 12)
	refuses(t, bytesOf(toOther+"8100 0001 8100 0001 0800"), api.ErrOrder, 16)
	refuses(t, bytesOf(toKnown+"00"+from+"0007 42 42 03 000000"), api.ErrMissing, 14)
	refuses(t, bytesOf(toOther+"0007 42 42 03 00000080 00 01"), api.ErrSpoilt, 22)
	refuses(t, bytesOf(toKnown+"0180c2 88cc"), api.ErrMissing, 6)
}

// framed is the frame of a sample with another Body.
func framed(x sample, body string) string { return written(frame.Write(with(x.v.Frame, body))) }

// kindOf is the kind of a Body where a sample's is.
func kindOf(x sample, body string) int {
	switch x.v.Kind {
	case api.IsBpdu, api.IsMst:
		if len(body) >= 4 && body[:4] == "\x00\x00\x03\x02" {
			return api.IsMst
		}
		return api.IsBpdu
	case api.IsLacp, api.IsMarker:
		if len(body) >= 1 && body[0] == 2 {
			return api.IsMarker
		}
		return api.IsLacp
	}
	return x.v.Kind
}

// checkBody asks for what is read of a Body where a sample's is: the same as reading it alone, and the same error, behind what stands ahead of it.
func checkBody(t *testing.T, x sample, body string) {
	t.Helper()
	want := api.Verdict{Kind: kindOf(x, body), Frame: x.v.Frame}
	err := kinds()[want.Kind].read(&want, body)
	if err == nil {
		takes(t, framed(x, body), want)
		return
	}
	e, at := plain.Place(err)
	refuses(t, framed(x, body), e, len(bytesOf(x.head))+at)
}

// 17.2: whatever a Body is: each cut of one, each byte in the place of its bytes (near its beginning), and more behind it.
func TestEveryBody(t *testing.T) {
	for _, x := range slices.Concat(arpSamples(), messageSamples()) {
		for n := range x.body {
			checkBody(t, x, x.body[:n])
		}
		for n := range min(len(x.body), 120) {
			for c := range 256 {
				if n >= 6 && c%16 > 2 {
					continue
				}
				b := []byte(x.body)
				b[n] = byte(c)
				checkBody(t, x, string(b))
			}
		}
		for _, more := range []string{"\x01", "\x00\xff", zeros(40) + "\x80"} {
			if len(bytesOf(x.head))+len(x.body+more) <= 1514 {
				checkBody(t, x, x.body+more)
			}
		}
	}
}

// 17.2, with places written out: what a Body begins with tells which of two kinds it is.
func TestPlaces(t *testing.T) {
	slow, arps := toKnown+"02"+from+"8809", toOther+"0806"
	llc := func(size string) string { return toKnown + "00" + from + size + "42 42 03" }
	for _, c := range []struct {
		digits string
		want   api.Errno
		place  int
	}{
		{slow, api.ErrMissing, 14}, {slow + "01", api.ErrMissing, 14}, {slow + "02", api.ErrMissing, 14}, {slow + "0101", api.ErrMissing, 16},
		{slow + "0202", api.ErrForm, 14}, {slow + "0201", api.ErrMissing, 16}, {slow + "0201 03", api.ErrForm, 16}, {slow + "0102", api.ErrForm, 14},
		{slow + "0301", api.ErrForm, 14}, {slow + "0001", api.ErrForm, 14}, {slow + "0101 0214", api.ErrForm, 16},
		{llc("0003"), api.ErrMissing, 17}, {llc("0006") + "000003", api.ErrMissing, 17}, {llc("0007") + "00000303", api.ErrForm, 17},
		{llc("0007") + "00000302", api.ErrMissing, 21}, {llc("0007") + "00000202", api.ErrMissing, 21}, {llc("0007") + "00000300", api.ErrForm, 17},
		{llc("0008") + "00000302 00", api.ErrMissing, 22}, {llc("0007") + "01000302", api.ErrForm, 17},
		{arps, api.ErrMissing, 14}, {arps + "0001 0800 06 05", api.ErrForm, 14}, {arps + "0001 0800 06 04 0003", api.ErrRange, 20},
		{toOther + "8100 0001 0806", api.ErrMissing, 18}, {toOther + "88a8 0001 8100 0001 0806 0001 0800 06 04 0000", api.ErrRange, 28},
		{toKnown + "01" + from + "8808", api.ErrMissing, 14}, {toKnown + "01" + from + "8808 0101 0100", api.ErrRange, 16},
		{toKnown + "0e" + from + "88cc", api.ErrMissing, 14}, {toKnown + "0e" + from + "88cc 0000", api.ErrMissing, 14}, {toKnown + "0e" + from + "88cc 0400 0000", api.ErrOrder, 14},
		{toKnown + "21" + from + "88f5", api.ErrMissing, 14}, {toKnown + "21" + from + "88f5 00 02 02", api.ErrName, 15},
		{toKnown + "0f" + from + "0800", api.ErrName, 0}, {toKnown + "0f" + from + "8100 0001 0800", api.ErrName, 0},
	} {
		refuses(t, bytesOf(c.digits), c.want, c.place)
	}
}

// zeroBut says whether all fields of a verdict but Kind, Frame and one more are zero, empty lists being it, too.
func zeroBut(v api.Verdict, field string) bool {
	x := reflect.ValueOf(v)
	for i := range x.NumField() {
		name := x.Type().Field(i).Name
		if name != "Kind" && name != "Frame" && name != field && !equal(x.Field(i), reflect.Zero(x.Field(i).Type())) {
			return false
		}
	}
	return true
}

// may says whether a verdict is of a frame, and of which one, condition by condition as 17.3 has them.
func may(v api.Verdict) (string, bool) {
	f := v.Frame
	if v.Kind == api.Data {
		for _, k := range kinds() {
			if k.is(f) {
				return "", false
			}
		}
		s, err := frame.Write(f)
		return s, err == nil && zeroBut(v, "") && (f.Dst[5] > 15 || f.Dst != known(int(f.Dst[5])))
	}
	k, there := kinds()[v.Kind]
	if !there || f.Body != "" || !zeroBut(v, k.field) || !k.is(f) || !k.isAddressed(f.Dst) || len(f.Tags) > 0 && !k.tags {
		return "", false
	}
	body, err := k.write(v)
	s, wrong := frame.Write(with(f, body))
	return frame.Pad(s), err == nil && wrong == nil
}

// judges asks of a verdict whether it is of a frame, and of which one.
func judges(t *testing.T, what string, v api.Verdict) {
	t.Helper()
	if s, right := may(v); right {
		gives(t, v, s)
	} else {
		gone(t, what, v)
	}
}

// 17.3: everything that a verdict has, in another's place: in the fields of its kind, and in those of the other ones.
func TestEveryChange(t *testing.T) {
	for _, x := range samples() {
		v := copied(x.v)
		changes(&v, func(path string) { judges(t, path, v) })
		if !equals(v, x.v) {
			t.Fatal("not set right")
		}
	}
}

// 17.3: a field that does not belong to the kind, with all that it may have.
func TestOtherFields(t *testing.T) {
	full := filled(1)
	for _, x := range samples() {
		for i := range reflect.TypeOf(full).NumField() {
			name := reflect.TypeOf(full).Field(i).Name
			if name == "Kind" || name == "Frame" || name == kinds()[x.v.Kind].field {
				continue
			}
			v := x.v
			reflect.ValueOf(&v).Elem().Field(i).Set(reflect.ValueOf(full).Field(i))
			gone(t, name, v)
		}
		for _, y := range samples() {
			field := kinds()[y.v.Kind].field
			if y.v.Kind == api.Data || y.v.Kind == x.v.Kind {
				continue
			}
			v := x.v
			reflect.ValueOf(&v).Elem().FieldByName(field).Set(reflect.ValueOf(y.v).FieldByName(field))
			judges(t, field, v)
		}
	}
}

// emptied is a verdict with memory of its own: no list is nil, and all have room behind their length.
func emptied(v api.Verdict) api.Verdict {
	leaves("Verdict", reflect.ValueOf(&v).Elem(), func(_ string, x reflect.Value) {
		if x.Kind() == reflect.Slice {
			l := reflect.MakeSlice(x.Type(), x.Len(), x.Len()+3)
			reflect.Copy(l, x)
			x.Set(l)
		}
	})
	return v
}

// nils is a verdict all whose empty lists are nil.
func nils(v api.Verdict) api.Verdict {
	v = copied(v)
	leaves("Verdict", reflect.ValueOf(&v).Elem(), func(_ string, x reflect.Value) {
		if x.Kind() == reflect.Slice && x.Len() == 0 {
			x.SetZero()
		}
	})
	return v
}

// 17.3: an empty list counts as zero, in the fields of all kinds.
func TestEmptyLists(t *testing.T) {
	for _, x := range samples() {
		gives(t, emptied(x.v), x.bytes())
		gives(t, nils(x.v), x.bytes())
	}
}

// 17.3: Bad, and what is no kind, has no frame, be the rest of it that of another kind or nothing.
func TestNoKind(t *testing.T) {
	for _, n := range []int{api.Bad, -1, api.Verdicts, api.Verdicts + 1, 256 + api.Data, 1 << 32, 1<<32 + api.Data, math.MinInt, math.MaxInt} {
		gone(t, "nothing", api.Verdict{Kind: n})
		gone(t, "an error", api.Verdict{Kind: n, Err: api.ErrName})
		for _, x := range samples() {
			v := x.v
			v.Kind = n
			gone(t, "no kind", v)
		}
	}
}

// 17.3: the message of each kind in the frame of each other one.
func TestOtherFrame(t *testing.T) {
	for _, x := range samples() {
		for _, y := range samples() {
			v := x.v
			v.Frame = y.v.Frame
			judges(t, "another frame", v)
			v.Frame.Body = "b"
			judges(t, "another frame with a Body", v)
		}
	}
}

// 17.3: messages that may not be, and those for which no frame has room.
func TestMessages(t *testing.T) {
	base := func(kind int) api.Verdict {
		all := samples()
		return all[slices.IndexFunc(all, func(x sample) bool { return x.v.Kind == kind })].v
	}
	check := func(kind int, set func(v *api.Verdict), want bool) {
		v := base(kind)
		set(&v)
		if _, right := may(v); right != want {
			t.Fatalf("%s: %v", show(v), right)
		}
		judges(t, "a message", v)
	}
	check(api.IsArp, func(v *api.Verdict) { v.Arp.Op = 3 }, false)
	check(api.IsPause, func(v *api.Verdict) { v.Pause.Enable = 1 }, false)
	check(api.IsBpdu, func(v *api.Verdict) { v.Bpdu = api.Bpdu{} }, false)
	check(api.IsMst, func(v *api.Verdict) { v.Mst.Digest = "" }, false)
	check(api.IsMst, func(v *api.Verdict) { v.Mst.Insts = make([]api.Inst, 65) }, false)
	check(api.IsLldp, func(v *api.Verdict) { v.Lldp.Port.Sub = 0 }, false)
	check(api.IsLacp, func(v *api.Verdict) { v.Lacp.Delay = -1 }, false)
	check(api.IsMarker, func(v *api.Verdict) { v.Marker.Txn = 1 << 32 }, false)
	// These errors have a place, and the verdict's have none.
	check(api.IsMvrp, func(v *api.Verdict) { v.Mvrp = []api.Attr{{LeaveAll: true}, {}} }, false)
	check(api.IsMvrp, func(v *api.Verdict) { v.Mvrp = slices.Repeat([]api.Attr{{LeaveAll: true}}, 41) }, false)
	check(api.IsMvrp, func(v *api.Verdict) { v.Mvrp = slices.Repeat([]api.Attr{{LeaveAll: true}}, 40) }, true)
	check(api.IsMvrp, func(v *api.Verdict) {
		v.Mvrp = slices.Repeat([]api.Attr{{First: 1, Events: make([]int, 400)}}, 40)
	}, false)
	for n := range 21 {
		info := api.Org{Info: strings.Repeat("i", 507)}
		check(api.IsLldp, func(v *api.Verdict) { v.Lldp.Orgs = slices.Repeat([]api.Org{info}, n) }, n <= 3)
	}
	// 14 bytes of the frame, 14 of the three least records and the end, 3 times 513, and 6 of the last one.
	for n, room := 0, 2000-14-14-3*513-6; n <= 507; n++ {
		v := base(api.IsLldp)
		v.Lldp.Orgs = slices.Repeat([]api.Org{{Info: strings.Repeat("i", 507)}}, 4)
		v.Lldp.Orgs[2].Info = v.Lldp.Orgs[2].Info[:n]
		_, right := may(v)
		if right != (n <= room) {
			t.Fatalf("%d bytes: %v", n, right)
		}
		judges(t, "room", v)
	}
}

// 17.3: whatever is changed in whatever verdict, more than one thing at once, too.
func TestDrawnVerdicts(t *testing.T) {
	source := rand.New(rand.NewSource(17))
	all := samples()
	for range 4000 {
		v := copied(all[source.Intn(len(all))].v)
		for range 1 + source.Intn(3) {
			var paths []reflect.Value
			leaves("", reflect.ValueOf(&v).Elem(), func(_ string, x reflect.Value) { paths = append(paths, x) })
			x := paths[source.Intn(len(paths))]
			list := others(reflect.ValueOf(x.Interface()))
			x.Set(list[source.Intn(len(list))])
		}
		judges(t, "drawn", v)
	}
}

// 17.3: two verdicts are the same if everything in them is.
func TestSame(t *testing.T) {
	same := func(what string, a, b api.Verdict, want bool) {
		t.Helper()
		if verdict.Same(a, b) != want || verdict.Same(b, a) != want || equals(a, b) != want {
			t.Errorf("%s: Same(%s, %s) is not %v", what, show(a), show(b), want)
		}
	}
	for _, v := range []api.Verdict{{}, filled(0), filled(1), filled(2)} {
		same("the same", v, copied(v), true)
		changed := copied(v)
		changes(&changed, func(path string) { same(path, v, changed, false) })
		same("set right", v, changed, true)
	}
	for i, x := range samples() {
		for j, y := range samples() {
			same("samples", x.v, y.v, i == j || equals(x.v, y.v))
		}
	}
}

// 17.3: lists that are nil and that are empty are equal, also within lists.
func TestSameEmpty(t *testing.T) {
	events := func(l []int) api.Verdict {
		return api.Verdict{Mvrp: []api.Attr{{First: 1, Events: l}, {LeaveAll: true}}}
	}
	for _, v := range []api.Verdict{{}, filled(0), filled(1), events(nil), events([]int{}), events([]int{1})} {
		if !verdict.Same(nils(v), emptied(v)) || !verdict.Same(emptied(v), nils(v)) || !verdict.Same(v, emptied(v)) {
			t.Errorf("%s is not the same with empty lists", show(v))
		}
	}
	if verdict.Same(events(nil), events([]int{0})) {
		t.Error("an event is as none")
	}
}

// checkOne asks for property 2: a text is Bad, and tells just why, or has a verdict that is right, and whose frame has the same verdict.
func checkOne(t *testing.T, s string) {
	t.Helper()
	v := verdict.Classify(s)
	if !equals(v, verdict.Classify(s)) {
		t.Errorf("Classify(%x) is not always the same", s)
	}
	if v.Kind == api.Bad {
		if v.Err <= api.OK || v.Place < 0 || v.Place > len(s) {
			t.Errorf("Classify(%x) = %s", s, show(v))
		}
		refuses(t, s, v.Err, v.Place)
		return
	}
	f, err := frame.Read(s)
	if err != nil {
		t.Errorf("Classify(%x) = %s: %v", s, show(v), err)
	}
	want, right := may(v)
	if !right || v.Err != api.OK || v.Place != 0 {
		t.Errorf("Classify(%x) = %s, which may not be", s, show(v))
	}
	gives(t, v, want)
	if v.Kind == api.Data && f.Kind == api.Ether && want != s {
		t.Errorf("Encode of %x is %x", s, want)
	}
}

// Property 2, and P1: samples, bent; and texts of any bytes.
func TestDrawn(t *testing.T) {
	source := rand.New(rand.NewSource(2))
	all := samples()
	few := func(most int) string {
		b := make([]byte, source.Intn(most))
		for i := range b {
			b[i] = []byte{0, 0, 1, 2, byte(source.Intn(256))}[source.Intn(5)]
		}
		return string(b)
	}
	for range 20000 {
		x := all[source.Intn(len(all))]
		b := []byte(x.bytes())
		for range 1 + source.Intn(3) {
			switch at := source.Intn(len(b) + 1); source.Intn(5) {
			case 0:
				b = b[:at]
			case 1:
				b = append(b, few(5)...)
			case 2:
				b = slices.Insert(b, at, []byte(few(5))...)
			default:
				if at < len(b) {
					b[at] = []byte{byte(source.Intn(256)), b[at] ^ 1<<source.Intn(8)}[source.Intn(2)]
				}
			}
		}
		checkOne(t, string(b))
		checkOne(t, few(100))
		checkOne(t, bytesOf(x.head)+few(60))
	}
}

// whole are all lists of a verdict with the memory behind their length, one behind the other.
func whole(v *api.Verdict) []reflect.Value {
	var l []reflect.Value
	leaves("Verdict", reflect.ValueOf(v).Elem(), func(_ string, x reflect.Value) {
		if x.Kind() == reflect.Slice {
			l = append(l, x.Slice(0, x.Cap()))
		}
	})
	return l
}

// P4: what is passed stays as it is, the memory behind a list's length, too.
func TestArguments(t *testing.T) {
	for _, x := range append(samples(), sample{v: filled(2)}) {
		v, before := emptied(x.v), emptied(x.v)
		for i, l := range whole(&v) {
			n := 1000
			for j := range 3 {
				fill(l.Index(l.Len()-1-j), 1, &n)
			}
			reflect.Copy(whole(&before)[i], l)
		}
		verdict.Encode(v)
		verdict.Right(v)
		verdict.Same(v, x.v)
		verdict.Same(x.v, v)
		if !equals(v, x.v) {
			t.Errorf("%s is %s now", show(x.v), show(v))
		}
		for i, l := range whole(&v) {
			if !equal(l, whole(&before)[i]) {
				t.Errorf("%s: the memory of list %d has changed", show(v), i)
			}
		}
	}
}

// P4: results share no memory.
func TestResults(t *testing.T) {
	for _, x := range samples() {
		a, b := verdict.Classify(x.bytes()), verdict.Classify(x.bytes())
		leaves("Verdict", reflect.ValueOf(&a).Elem(), func(_ string, y reflect.Value) {
			if y.Kind() != reflect.Slice {
				y.Set(others(y)[0])
			}
		})
		if !equals(b, x.v) {
			t.Errorf("%s is %s when another one is changed", show(x.v), show(b))
		}
	}
}
