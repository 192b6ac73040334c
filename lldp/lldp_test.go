package lldp_test

import (
	"encoding/hex"
	"math"
	"math/rand"
	"reflect"
	"slices"
	"strings"
	"testing"

	"switchyard/api"
	"switchyard/lldp"
	"switchyard/plain"
	"switchyard/tlv"
)

// none is the place of an error that has none.
const none = -1

// bytesOf are those that digits tell; blanks are for the reader.
func bytesOf(digits string) string {
	b, err := hex.DecodeString(strings.ReplaceAll(digits, " ", ""))
	if err != nil {
		panic(digits)
	}
	return string(b)
}

// record is a record's bytes, and digitsOf those of one whose text is told by digits.
func record(kind int, text string) string {
	return string([]byte{byte(2*kind + len(text)>>8), byte(len(text))}) + text
}

func digitsOf(kind int, text string) string {
	return hex.EncodeToString([]byte(record(kind, bytesOf(text))))
}

// end is the end mark.
const end = "\x00\x00"

// lead are the three records of an announcement that tells nothing else, and alone is this one.
const lead = "\x02\x02\x04c" + "\x04\x02\x07p" + "\x06\x02\x00\x78"

func alone() api.Lldp {
	return api.Lldp{Chassis: api.Name{Sub: 4, ID: "c"}, Port: api.Name{Sub: 7, ID: "p"}, Ttl: 120}
}

// all is an announcement with all there is, each of whose numbers has other bytes, and allDigits are its bytes.
func all() api.Lldp {
	return api.Lldp{
		Chassis: api.Name{Sub: 1, ID: "abc"}, Port: api.Name{Sub: 7, ID: "\x00"}, Ttl: 0x1112,
		Desc: []string{"de"}, Host: []string{"h"}, System: []string{"sys"},
		Caps: []api.Caps{{Has: 0xf1f2, On: 0x3132}},
		Manage: []api.Manage{
			{Addr: api.Name{Sub: 1, ID: "\x0a\x00\x00\x01"}, IfSub: 2, If: 0x41424344, Oid: "\x2b\x06"},
			{Addr: api.Name{Sub: 255, ID: "m"}, IfSub: 3, If: 5},
		},
		Orgs: []api.Org{{Oui: 0x515253, Sub: 0x61, Info: "info"}, {Oui: 1}},
	}
}

const allDigits = "0204 01 616263" + "0402 07 00" + "0602 1112" + "0802 6465" + "0a01 68" + "0c03 737973" + "0e04 f1f2 3132" +
	"100e 05 01 0a000001 02 41424344 02 2b06" + "1009 02 ff 6d 03 00000005 00" + "fe08 515253 61 696e666f" + "fe04 000001 00" + "0000"

// least has empty texts and zeros, where they may be.
func least() api.Lldp {
	return api.Lldp{
		Chassis: api.Name{Sub: 1, ID: "\x00"}, Port: api.Name{Sub: 1, ID: "\x00"},
		Desc: []string{""}, Host: []string{""}, System: []string{""}, Caps: []api.Caps{{}},
		Manage: []api.Manage{{Addr: api.Name{ID: "\x00"}, IfSub: 1}}, Orgs: []api.Org{{}},
	}
}

const leastDigits = "0202 0100" + "0402 0100" + "0602 0000" + "0800" + "0a00" + "0c00" + "0e04 00000000" +
	"1009 02 00 00 01 00000000 00" + "fe04 00000000" + "0000"

// text are so many bytes.
func text(n int) string { return strings.Repeat("\xff", n) }

// most has the greatest numbers, and the longest texts and lists.
func most() api.Lldp {
	return api.Lldp{
		Chassis: api.Name{Sub: 7, ID: text(255)}, Port: api.Name{Sub: 7, ID: text(255)}, Ttl: 65535,
		Desc: []string{text(255)}, Host: []string{text(255)}, System: []string{text(255)}, Caps: []api.Caps{{Has: 65535, On: 65535}},
		Manage: slices.Repeat([]api.Manage{{Addr: api.Name{Sub: 255, ID: text(31)}, IfSub: 3, If: 1<<32 - 1, Oid: text(128)}}, 20),
		Orgs:   slices.Repeat([]api.Org{{Oui: 1<<24 - 1, Sub: 255, Info: text(507)}}, 20),
	}
}

func mostDigits() string {
	f := func(n int) string { return strings.Repeat("ff", n) }
	return "0300 07" + f(255) + "0500 07" + f(255) + "0602 ffff" + "08ff" + f(255) + "0aff" + f(255) + "0cff" + f(255) + "0e04 ffffffff" +
		strings.Repeat("10a7 20 ff"+f(31)+"03"+f(4)+"80"+f(128), 20) + strings.Repeat("ffff"+f(511), 20) + "0000"
}

// sample is an announcement, and its bytes.
type sample struct {
	l      api.Lldp
	digits string
}

// with is an announcement with something changed.
func with(l api.Lldp, change func(l *api.Lldp)) api.Lldp {
	change(&l)
	return l
}

// samples are announcements; the first one tells as little as there may be.
func samples() []sample {
	leadDigits := hex.EncodeToString([]byte(lead))
	return []sample{
		{alone(), "0202 04 63" + "0402 07 70" + "0602 0078" + "0000"},
		{all(), allDigits}, {least(), leastDigits}, {most(), mostDigits()},
		{with(alone(), func(l *api.Lldp) { l.Desc = []string{"d"} }), leadDigits + "0801 64 0000"},
		{with(alone(), func(l *api.Lldp) { l.Host = []string{"h"} }), leadDigits + "0a01 68 0000"},
		{with(alone(), func(l *api.Lldp) { l.System = []string{"s"} }), leadDigits + "0c01 73 0000"},
		{with(alone(), func(l *api.Lldp) { l.Caps = []api.Caps{{Has: 0x0104, On: 4}} }), leadDigits + "0e04 0104 0004 0000"},
		{with(alone(), func(l *api.Lldp) { l.Manage = all().Manage[1:] }), leadDigits + "1009 02 ff 6d 03 00000005 00 0000"},
		{with(alone(), func(l *api.Lldp) { l.Orgs = all().Orgs[1:] }), leadDigits + "fe04 000001 00 0000"},
	}
}

// same compares announcements; empty lists and none are one.
func same(a, b api.Lldp) bool {
	return a.Chassis == b.Chassis && a.Port == b.Port && a.Ttl == b.Ttl &&
		slices.Equal(a.Desc, b.Desc) && slices.Equal(a.Host, b.Host) && slices.Equal(a.System, b.System) &&
		slices.Equal(a.Caps, b.Caps) && slices.Equal(a.Manage, b.Manage) && slices.Equal(a.Orgs, b.Orgs)
}

// same has all fields.
func TestSame(t *testing.T) {
	whole := reflect.ValueOf(all())
	for i := range whole.NumField() {
		if whole.Field(i).IsZero() {
			t.Errorf("all has no %s", whole.Type().Field(i).Name)
		}
		l := all()
		reflect.ValueOf(&l).Elem().Field(i).SetZero()
		if same(l, all()) || same(all(), l) {
			t.Errorf("same does not look at %s", whole.Type().Field(i).Name)
		}
	}
}

// reads asks Read for an announcement, which is valid.
func reads(t *testing.T, s string, want api.Lldp) {
	t.Helper()
	if l, err := lldp.Read(s); !same(l, want) || err != nil || !lldp.Right(l) {
		t.Errorf("Read(%.300x) = %.600v, %v, want %.600v", s, l, err, want)
	}
}

// refuses asks Read for an error with its place, and for no announcement with it.
func refuses(t *testing.T, s string, want api.Errno, place int) {
	t.Helper()
	l, err := lldp.Read(s)
	if e, at := plain.Place(err); e != want || at != place {
		t.Errorf("Read(%.300x): error %d at %d, want %d at %d", s, e, at, want, place)
	}
	if !same(l, api.Lldp{}) {
		t.Errorf("Read(%.300x) = %.600v with an error", s, l)
	}
}

// judges asks whether an announcement is valid, and whether Write agrees, whose error has no place.
func judges(t *testing.T, what string, l api.Lldp, want bool) {
	t.Helper()
	if got := lldp.Right(l); got != want {
		t.Errorf("%s: Right(%.300v) = %v", what, l, got)
	}
	s, err := lldp.Write(l)
	e, at := plain.Place(err)
	if want && (e != api.OK || s == "") || !want && (e != api.ErrArg || at != none || s != "") {
		t.Errorf("%s: Write(%.300v): %d bytes, error %d at %d", what, l, len(s), e, at)
	}
}

// 14.2, 14.3 and property 1: the bytes of announcements, in both directions.
func TestSamples(t *testing.T) {
	for _, x := range samples() {
		judges(t, "a sample", x.l, true)
		s := bytesOf(x.digits)
		if got, err := lldp.Write(x.l); got != s || err != nil {
			t.Errorf("Write(%.300v) = %.600x, %v, want %.600x", x.l, got, err, s)
		}
		reads(t, s, x.l)
		// 13.1: behind the end mark there may be zeros.
		reads(t, s+strings.Repeat("\x00", 46), x.l)
	}
}

// number is one of an announcement: how it is set, and from where to where it may be.
type number struct {
	what        string
	set         func(l *api.Lldp, x int)
	least, most int
}

// numbers are all but those of Caps. Those of lists are of their last elements.
func numbers() []number {
	manage := func(l *api.Lldp) *api.Manage {
		l.Manage = slices.Clone(l.Manage)
		return &l.Manage[len(l.Manage)-1]
	}
	orgs := func(l *api.Lldp) *api.Org {
		l.Orgs = slices.Clone(l.Orgs)
		return &l.Orgs[len(l.Orgs)-1]
	}
	return []number{
		{"Chassis.Sub", func(l *api.Lldp, x int) { l.Chassis.Sub = x }, 1, 7},
		{"Port.Sub", func(l *api.Lldp, x int) { l.Port.Sub = x }, 1, 7},
		{"Ttl", func(l *api.Lldp, x int) { l.Ttl = x }, 0, 65535},
		{"Manage.Addr.Sub", func(l *api.Lldp, x int) { manage(l).Addr.Sub = x }, 0, 255},
		{"Manage.IfSub", func(l *api.Lldp, x int) { manage(l).IfSub = x }, 1, 3},
		{"Manage.If", func(l *api.Lldp, x int) { manage(l).If = x }, 0, 1<<32 - 1},
		{"Orgs.Oui", func(l *api.Lldp, x int) { orgs(l).Oui = x }, 0, 1<<24 - 1},
		{"Orgs.Sub", func(l *api.Lldp, x int) { orgs(l).Sub = x }, 0, 255},
	}
}

// lengths are those of all texts, set in the same way.
func lengths() []number {
	manage := func(l *api.Lldp) *api.Manage {
		l.Manage = slices.Clone(l.Manage)
		return &l.Manage[0]
	}
	return []number{
		{"Chassis.ID", func(l *api.Lldp, n int) { l.Chassis.ID = text(n) }, 1, 255},
		{"Port.ID", func(l *api.Lldp, n int) { l.Port.ID = text(n) }, 1, 255},
		{"Desc", func(l *api.Lldp, n int) { l.Desc = []string{text(n)} }, 0, 255},
		{"Host", func(l *api.Lldp, n int) { l.Host = []string{text(n)} }, 0, 255},
		{"System", func(l *api.Lldp, n int) { l.System = []string{text(n)} }, 0, 255},
		{"Manage.Addr.ID", func(l *api.Lldp, n int) { manage(l).Addr.ID = text(n) }, 1, 31},
		{"Manage.Oid", func(l *api.Lldp, n int) { manage(l).Oid = text(n) }, 0, 128},
		{"Orgs.Info", func(l *api.Lldp, n int) { l.Orgs = []api.Org{{Info: "first"}, {Info: text(n)}} }, 0, 507},
	}
}

// counts are how many elements lists have.
func counts() []number {
	return []number{
		{"Desc", func(l *api.Lldp, n int) { l.Desc = make([]string, n) }, 0, 1},
		{"Host", func(l *api.Lldp, n int) { l.Host = make([]string, n) }, 0, 1},
		{"System", func(l *api.Lldp, n int) { l.System = make([]string, n) }, 0, 1},
		{"Caps", func(l *api.Lldp, n int) { l.Caps = make([]api.Caps, n) }, 0, 1},
		{"Manage", func(l *api.Lldp, n int) { l.Manage = slices.Repeat(least().Manage, n) }, 0, 20},
		{"Orgs", func(l *api.Lldp, n int) { l.Orgs = make([]api.Org, n) }, 0, 20},
	}
}

// 14.1: each number may be from its least to its greatest, and what may be is read back.
func TestRightNumbers(t *testing.T) {
	for _, f := range numbers() {
		for _, x := range []int{math.MinInt, -1 << 32, -65536, -256, -1, 0, 1, 2, f.most - 1, f.most, f.most + 1, f.most + 2, 2*f.most + 2, 1 << 32, 1<<32 + 1, 1 << 62, math.MaxInt} {
			for _, l := range []api.Lldp{all(), least(), most()} {
				f.set(&l, x)
				right := x >= f.least && x <= f.most
				judges(t, f.what, l, right)
				if s, _ := lldp.Write(l); right {
					reads(t, s, l)
				}
			}
		}
	}
}

// 14.1: the lengths of texts and lists.
func TestRightLengths(t *testing.T) {
	for _, f := range append(lengths(), counts()...) {
		for n := range 600 {
			for _, l := range []api.Lldp{all(), most()} {
				f.set(&l, n)
				right := n >= f.least && n <= f.most
				judges(t, f.what, l, right)
				if s, _ := lldp.Write(l); right {
					reads(t, s, l)
				}
			}
		}
	}
}

// 14.1: each element of a list is looked at, wherever it stands.
func TestRightEach(t *testing.T) {
	for i := range 20 {
		judges(t, "Manage", with(most(), func(l *api.Lldp) { l.Manage[i].IfSub = 4 }), false)
		judges(t, "Manage", with(most(), func(l *api.Lldp) { l.Manage[i].IfSub = 2 }), true)
		judges(t, "Orgs", with(most(), func(l *api.Lldp) { l.Orgs[i].Oui = -1 }), false)
		judges(t, "Orgs", with(most(), func(l *api.Lldp) { l.Orgs[i].Oui = 1 }), true)
	}
	for _, l := range []api.Lldp{{}, {Chassis: alone().Chassis, Ttl: 120}, {Port: alone().Port, Ttl: 120}} {
		judges(t, "a name is not there", l, false)
	}
}

// 14.1: of capabilities, none is on that there is not, and numbers of two bytes have room.
func TestRightCaps(t *testing.T) {
	caps := func(has, on int) api.Lldp {
		return with(alone(), func(l *api.Lldp) { l.Caps = []api.Caps{{Has: has, On: on}} })
	}
	for has := range 64 {
		for on := range 64 {
			right := true
			for bit := range 6 {
				right = right && (on>>bit&1 == 0 || has>>bit&1 == 1)
			}
			judges(t, "Caps", caps(has, on), right)
			judges(t, "Caps", caps(has<<10, on<<10), right)
		}
	}
	for _, x := range []int{math.MinInt, -65536, -1, 65536, 65537, 1 << 32, math.MaxInt} {
		judges(t, "Caps", caps(x, 0), false)
		judges(t, "Caps", caps(x, x), false)
		judges(t, "Caps", caps(65535, x), false)
		judges(t, "Caps", caps(-1, x), false)
	}
	judges(t, "Caps", caps(65535, 0), true)
	judges(t, "Caps", caps(0, 65535), false)
}

// tail are records that may follow the first three: one of each type that is there once, and two of each other one.
func tail() []string {
	return []string{
		record(4, "d"), record(5, "h"), record(6, "s"), record(7, "\x00\x03\x00\x01"),
		record(8, "\x02\x01m\x02\x00\x00\x00\x05\x00"), record(8, "\x02\x01n\x02\x00\x00\x00\x05\x00"),
		record(127, "\x00\x00\x01\x00i"), record(127, "\x00\x00\x01\x00j"),
	}
}

// 14.3: the records behind the first three may stand in any order; those of one type keep theirs.
func TestAnyOrder(t *testing.T) {
	source := rand.New(rand.NewSource(14))
	for range 2000 {
		l := tail()
		source.Shuffle(len(l), func(i, k int) { l[i], l[k] = l[k], l[i] })
		want := alone()
		for _, s := range l {
			switch s[0] / 2 {
			case 4:
				want.Desc = []string{"d"}
			case 5:
				want.Host = []string{"h"}
			case 6:
				want.System = []string{"s"}
			case 7:
				want.Caps = []api.Caps{{Has: 3, On: 1}}
			case 8:
				want.Manage = append(want.Manage, api.Manage{Addr: api.Name{Sub: 1, ID: s[4:5]}, IfSub: 2, If: 5})
			default:
				want.Orgs = append(want.Orgs, api.Org{Oui: 1, Info: s[6:]})
			}
		}
		reads(t, lead+strings.Join(l, "")+end, want)
	}
}

// 14.3: the errors of records' bytes come first, at their positions, whatever the records are.
func TestRecordErrors(t *testing.T) {
	refused := func(s string) {
		t.Helper()
		_, _, _, err := tlv.Read(s)
		e, at := plain.Place(err)
		if e == api.OK {
			t.Fatalf("tlv.Read(%x) has no error", s)
		}
		refuses(t, s, e, at)
	}
	for _, x := range samples()[:3] {
		s := bytesOf(x.digits)
		for n := range len(s) {
			refused(s[:n])
			refused(s[:n] + "\xff\xff")
		}
		refused(s + "\x01")
		refused(s + "\x00\x00\x00\x01")
	}
	for _, wrong := range []string{"", record(9, ""), record(2, "\x01x"), record(1, ""), lead + lead, lead + record(50, "")} {
		for _, more := range []string{"", "\x00", "\x02", "\x02\x01", "\x00\x01", "\x01\x00", "\x00\x00\x01", "\x00\x00\x00\x80"} {
			refused(wrong + more)
		}
	}
	refuses(t, lead, api.ErrMissing, 12)
	refuses(t, lead+"\x02\x05abc", api.ErrMissing, 14)
	refuses(t, lead+"\x00\x05", api.ErrForm, 12)
	refuses(t, lead+end+"\x00\x07", api.ErrSpoilt, 15)
}

// texts are such that some type has the form of, and such that none has.
var texts = []string{"", "\x00", "\x01", "\x01x", "\x00x", "\x00\x78", "abc", "\x00\x03\x00\x01", "\x00\x01\x00\x03", "\x02\x01m\x02\x00\x00\x00\x05\x00", strings.Repeat("x", 511)}

// 14.3, the first condition: each of the first three records has its number as its type.
func TestOrder(t *testing.T) {
	starts := []int{0, 4, 8}
	for i, at := range starts {
		for kind := 1; kind <= 127; kind++ {
			if kind == i+1 {
				continue
			}
			for _, s := range texts {
				refuses(t, lead[:at]+record(kind, s)+end, api.ErrOrder, at)
				refuses(t, lead[:at]+record(kind, s)+lead[at:]+end, api.ErrOrder, at)
			}
		}
	}
}

// 14.3, the last condition: without three records, the end mark is where something is missing.
func TestFew(t *testing.T) {
	for _, at := range []int{0, 4, 8} {
		for _, behind := range []string{"", "\x00", strings.Repeat("\x00", 50)} {
			refuses(t, lead[:at]+end+behind, api.ErrMissing, at)
		}
	}
	long := record(1, "\x01"+text(255))
	refuses(t, long+end, api.ErrMissing, len(long))
	// What is wrong with a record comes first.
	refuses(t, record(1, "\x00x")+end, api.ErrRange, 0)
	refuses(t, lead[:4]+record(2, "")+end, api.ErrForm, 4)
}

// 14.3, the second and the fourth condition: types 1 to 7 are there once, whatever a later one tells.
func TestTwice(t *testing.T) {
	once := map[int]string{4: "d", 5: "", 6: "s", 7: "\x00\x03\x00\x01"}
	for kind := 1; kind <= 7; kind++ {
		ahead := lead
		if s, ok := once[kind]; ok {
			ahead += record(kind, s)
		}
		for _, between := range []string{"", tail()[4], tail()[6], tail()[4] + tail()[6]} {
			for _, s := range texts {
				refuses(t, ahead+between+record(kind, s)+end, api.ErrTwice, len(ahead+between))
				refuses(t, ahead+between+record(kind, s)+record(9, "")+end, api.ErrTwice, len(ahead+between))
			}
		}
	}
	whole := lead + strings.Join(tail(), "")
	for kind := 1; kind <= 7; kind++ {
		refuses(t, whole+record(kind, "\x01x")+end, api.ErrTwice, len(whole))
	}
}

// 14.3, the third condition: no record has another type, whatever it tells.
func TestName(t *testing.T) {
	for kind := 9; kind <= 126; kind++ {
		for _, s := range texts {
			for _, ahead := range []string{lead, lead + tail()[0], lead + strings.Join(tail(), "")} {
				refuses(t, ahead+record(kind, s)+end, api.ErrName, len(ahead))
				refuses(t, ahead+record(kind, s)+record(kind, s)+end, api.ErrName, len(ahead))
			}
		}
	}
}

// finds asks Read for what a record's text is: an error, at the record's beginning, or an announcement, in which it is read back.
func finds(t *testing.T, kind int, s string, want api.Errno) {
	t.Helper()
	ahead, behind := lead, end
	if kind <= 3 {
		ahead, behind = lead[:4*(kind-1)], lead[4*kind:]+end
	}
	whole := ahead + record(kind, s) + behind
	if want != api.OK {
		refuses(t, whole, want, len(ahead))
		// Behind it there may be what is also wrong.
		refuses(t, whole[:len(whole)-2]+record(9, "")+end, want, len(ahead))
		return
	}
	l, err := lldp.Read(whole)
	again, fault := lldp.Write(l)
	if err != nil || fault != nil || again != whole {
		t.Errorf("Read(%x) = %+v, %v, which is written as %x, %v", whole, l, err, again, fault)
	}
}

// errno is the first of some, each told by whether it applies.
func errno(form, limits bool) api.Errno {
	switch {
	case form:
		return api.ErrForm
	case limits:
		return api.ErrRange
	}
	return api.OK
}

// 14.3, the fifth and the sixth condition: records of every length, but those of addresses.
func TestEveryLength(t *testing.T) {
	for n := range 512 {
		for _, fill := range []string{"\x01", "\x07", "\xff"} {
			s := strings.Repeat(fill, n)
			finds(t, 1, s, errno(n < 1, n < 2 || n > 256 || fill == "\xff"))
			finds(t, 2, s, errno(n < 1, n < 2 || n > 256 || fill == "\xff"))
			finds(t, 3, s, errno(n != 2, false))
			finds(t, 4, s, errno(false, n > 255))
			finds(t, 5, s, errno(false, n > 255))
			finds(t, 6, s, errno(false, n > 255))
			finds(t, 7, s, errno(n != 4, false))
			finds(t, 127, s, errno(n < 4, false))
		}
	}
}

// 14.3: the Sub of a name is from 1 to 7; without an ID, or with one that is too long, no Sub helps.
func TestReadName(t *testing.T) {
	for sub := range 256 {
		for _, kind := range []int{1, 2} {
			first := string([]byte{byte(sub)})
			finds(t, kind, first, api.ErrRange)
			finds(t, kind, first+"x", errno(false, sub < 1 || sub > 7))
			finds(t, kind, first+"\x00", errno(false, sub < 1 || sub > 7))
			finds(t, kind, first+text(256), api.ErrRange)
		}
	}
}

// 14.3: capabilities: none is on that there is not; the form is looked at first.
func TestReadCaps(t *testing.T) {
	for has := range 256 {
		for on := range 256 {
			wrong := on&(255-has) != 0
			for _, s := range []string{string([]byte{0, byte(has), 0, byte(on)}), string([]byte{byte(has), 7, byte(on), 7})} {
				want := errno(false, wrong)
				if want != api.OK {
					refuses(t, lead+record(7, s)+end, want, len(lead))
					refuses(t, lead+record(7, s[:3])+end, api.ErrForm, len(lead))
					refuses(t, lead+record(7, s+"\x00")+end, api.ErrForm, len(lead))
					continue
				}
				finds(t, 7, s, want)
			}
		}
	}
}

// wantManage is what the document asks of the text of an address, by what stands at each place.
func wantManage(s string) api.Errno {
	if len(s) == 0 {
		return api.ErrForm
	}
	name := max(1, int(s[0]))
	if len(s) < 1+name+6 || len(s) != 1+name+6+int(s[1+name+5]) {
		return api.ErrForm
	}
	ifSub, oid := int(s[1+name]), int(s[1+name+5])
	return errno(false, s[0] < 2 || s[0] > 32 || ifSub < 1 || ifSub > 3 || oid > 128)
}

// 14.3: addresses: every length of their names and Oids, and what is a little shorter or longer than these tell.
func TestReadManage(t *testing.T) {
	for first := range 256 {
		for _, oid := range []int{0, 1, 2, 127, 128, 129, 200, 255} {
			for _, ifSub := range []int{0, 1, 2, 3, 4, 255} {
				s := string([]byte{byte(first)}) + strings.Repeat("\x01", max(1, first)) + string([]byte{byte(ifSub), 1, 2, 3, 4, byte(oid)}) + text(oid)
				for _, n := range []int{0, 1, 2, len(s) - oid - 1, len(s) - oid, len(s) - 1, len(s), len(s) + 1, len(s) + 2} {
					x := (s + "\x00\x01")[:n]
					if len(x) <= 511 {
						finds(t, 8, x, wantManage(x))
					}
				}
			}
		}
	}
}

// 14.3: the first byte 0 of an address counts as 1: with that form it is out of range, with any other it has no form.
func TestReadManageZero(t *testing.T) {
	for _, c := range []struct {
		digits string
		want   api.Errno
	}{
		{"00", api.ErrForm}, {"00 01", api.ErrForm}, {"01", api.ErrForm}, {"01 01", api.ErrForm},
		{"00 01 02 00000005 00", api.ErrRange}, {"01 01 02 00000005 00", api.ErrRange},
		{"00 01 02 00000005 01 2b", api.ErrRange}, {"00 ff 09 00000005 00", api.ErrRange},
		{"00 01 02 00000005", api.ErrForm}, {"00 01 02 00000005 00 00", api.ErrForm}, {"00 01 02 00000005 02 2b", api.ErrForm},
		{"00 02 00000005 00", api.ErrForm}, {"01 02 00000005 00", api.ErrForm},
		{"02 01 6d 02 00000005 00", api.OK},
	} {
		s := bytesOf(c.digits)
		if got := wantManage(s); got != c.want {
			t.Errorf("%s: the test asks for %d and for %d", c.digits, got, c.want)
		}
		finds(t, 8, s, c.want)
	}
}

// 14.3, the seventh condition: MaxOpt records of Type 8, and of Type 127, each counted apart, and what else is wrong with one more comes first.
func TestLimit(t *testing.T) {
	manage, org := tail()[4], tail()[6]
	reads(t, lead+strings.Repeat(manage+org, 20)+end, with(alone(), func(l *api.Lldp) {
		l.Manage = slices.Repeat([]api.Manage{{Addr: api.Name{Sub: 1, ID: "m"}, IfSub: 2, If: 5}}, 20)
		l.Orgs = slices.Repeat([]api.Org{{Oui: 1, Info: "i"}}, 20)
	}))
	for _, ahead := range []string{lead + strings.Repeat(manage, 20), lead + strings.Repeat(org+manage, 20), lead + strings.Join(tail(), "") + strings.Repeat(manage, 18)} {
		refuses(t, ahead+manage+end, api.ErrLimit, len(ahead))
		refuses(t, ahead+manage+manage+record(9, "")+end, api.ErrLimit, len(ahead))
		refuses(t, ahead+record(8, "")+end, api.ErrForm, len(ahead))
		refuses(t, ahead+record(8, "\x00\x01\x02\x00\x00\x00\x05\x00")+end, api.ErrRange, len(ahead))
	}
	for _, ahead := range []string{lead + strings.Repeat(org, 20), lead + strings.Repeat(manage+org, 20), lead + strings.Join(tail(), "") + strings.Repeat(org, 18)} {
		refuses(t, ahead+org+end, api.ErrLimit, len(ahead))
		refuses(t, ahead+org+org+lead+end, api.ErrLimit, len(ahead))
		refuses(t, ahead+record(127, "abc")+end, api.ErrForm, len(ahead))
	}
}

// 14.3: the records are examined in order: the first one with which something is wrong is told, whatever it is.
func TestFirst(t *testing.T) {
	faults := []struct {
		s string
		e api.Errno
	}{
		{record(2, "\x01x"), api.ErrTwice}, {record(60, ""), api.ErrName}, {record(5, "h"), api.ErrTwice},
		{record(7, "abc"), api.ErrForm}, {record(6, text(256)), api.ErrRange}, {record(8, ""), api.ErrForm}, {tail()[6], api.ErrLimit},
	}
	ahead := lead + record(5, "h") + strings.Repeat(tail()[6], 20)
	for _, a := range faults {
		for _, b := range faults {
			refuses(t, ahead+a.s+b.s+end, a.e, len(ahead))
			between := record(4, "fine")
			refuses(t, ahead+between+a.s+b.s+end, a.e, len(ahead+between))
		}
	}
	refuses(t, record(1, "")+record(9, "")+end, api.ErrForm, 0)
	refuses(t, record(1, "\x09x")+record(9, "")+end, api.ErrRange, 0)
	refuses(t, lead[:8]+record(3, "x")+lead+end, api.ErrForm, 8)
}

// drawn is an announcement that may be.
func drawn(source *rand.Rand) api.Lldp {
	few := func(least, most int) string {
		b := make([]byte, least+source.Intn(most-least+1))
		source.Read(b)
		return string(b)
	}
	one := func() []string { return slices.Repeat([]string{few(0, 255)}, source.Intn(2)) }
	has := source.Intn(65536)
	l := api.Lldp{
		Chassis: api.Name{Sub: 1 + source.Intn(7), ID: few(1, 255)}, Port: api.Name{Sub: 1 + source.Intn(7), ID: few(1, 255)}, Ttl: source.Intn(65536),
		Desc: one(), Host: one(), System: one(), Caps: slices.Repeat([]api.Caps{{Has: has, On: has & source.Intn(65536)}}, source.Intn(2)),
	}
	for range source.Intn(21) {
		l.Manage = append(l.Manage, api.Manage{Addr: api.Name{Sub: source.Intn(256), ID: few(1, 31)}, IfSub: 1 + source.Intn(3), If: source.Intn(1 << 32), Oid: few(0, 128)})
	}
	for range source.Intn(21) {
		l.Orgs = append(l.Orgs, api.Org{Oui: source.Intn(1 << 24), Sub: source.Intn(256), Info: few(0, 507)})
	}
	return l
}

// Property 1: what is written is read back.
func TestReadBack(t *testing.T) {
	source := rand.New(rand.NewSource(15))
	for range 2000 {
		l := drawn(source)
		s, err := lldp.Write(l)
		if err != nil {
			t.Fatalf("Write(%+v): %v", l, err)
		}
		reads(t, s, l)
	}
}

// inOrder are the records of bytes in the order of their types, in which they are written, and the end mark.
func inOrder(s string) string {
	l, _, _, _ := tlv.Read(s)
	slices.SortStableFunc(l, func(a, b api.Tlv) int { return a.Type - b.Type })
	ordered, _ := tlv.Write(l)
	return ordered
}

// Property 1: whatever byte is put in another's place, what is read is valid, and is written in the same way again, up to the order of the records and the zeros at the end.
func TestEveryChange(t *testing.T) {
	for _, s := range []string{bytesOf(allDigits), bytesOf(leastDigits), lead + strings.Join(tail(), "") + end + "\x00\x00"} {
		for i := range len(s) {
			for c := range 256 {
				b := []byte(s)
				b[i] = byte(c)
				l, err := lldp.Read(string(b))
				if err != nil {
					e, at := plain.Place(err)
					refuses(t, string(b), e, at)
					continue
				}
				again, err := lldp.Write(l)
				if err != nil || again != inOrder(string(b)) {
					t.Errorf("Read(%x) = %+v, which is written as %x, %v", b, l, again, err)
				}
				reads(t, again, l)
			}
		}
	}
}

// P4: lists are not changed, nor the memory behind them, and the lists that are read are memory of their own.
func TestArgsStay(t *testing.T) {
	spare := api.Manage{Oid: "spare"}
	for _, l := range []api.Lldp{all(), least(), with(most(), func(l *api.Lldp) { l.Orgs[3].Oui = -1 })} {
		room := append(slices.Clone(l.Manage), spare, spare)
		desc := append(slices.Clone(l.Desc), "spare")
		orgs := slices.Clone(l.Orgs)
		l.Manage, l.Desc = room[:len(l.Manage)], desc[:1]
		before := slices.Clone(room)
		lldp.Right(l)
		lldp.Write(l)
		if !slices.Equal(room, before) || desc[1] != "spare" || !slices.Equal(l.Orgs, orgs) {
			t.Errorf("%+v: changed", l)
		}
	}
	s := bytesOf(allDigits)
	first, _ := lldp.Read(s)
	second, _ := lldp.Read(s)
	first.Desc[0], first.Host[0], first.System[0], first.Caps[0], first.Manage[0], first.Orgs[0] = "x", "x", "x", api.Caps{}, spare, api.Org{}
	_, _ = append(first.Desc, "y"), append(first.Manage, spare)
	if !same(second, all()) || first.Host[0] != "x" || first.Manage[1] != all().Manage[1] {
		t.Errorf("the lists of one result are those of another: %+v", second)
	}
	reads(t, s, all())
}
