package bridge_test

import (
	"math"
	"math/rand"
	"reflect"
	"slices"
	"strings"
	"testing"

	"switchyard/api"
	"switchyard/bridge"
	"switchyard/frame"
	"switchyard/learn"
	"switchyard/plain"
)

// none is the place of an error that has none.
const none = -1

// everyone is a group address.
var everyone = api.Addr{255, 255, 255, 255, 255, 255}

// addr is the address of one station.
func addr(n byte) api.Addr { return api.Addr{2, 0, 0, 0, 0, n} }

// from is a frame from one station to an address, with tags.
func from(n byte, dst api.Addr, tags ...api.Tag) api.Frame {
	return api.Frame{Dst: dst, Src: addr(n), Tags: tags, Kind: api.Ether, Type: 0x800, Body: "body"}
}

// customer is a tag with nothing but a VID.
func customer(vid int) api.Tag { return api.Tag{Vid: vid} }

// open is a passing port: of what comes without a tag the first VID, a member of all of them; these leave with a tag.
func open(vids ...int) api.PortSet {
	return api.PortSet{Pvid: vids[0], In: vids, State: api.Passing}
}

// bare is a passing port of one VLAN, without tags.
func bare(vid int) api.PortSet {
	return api.PortSet{Pvid: vid, In: []int{vid}, Bare: []int{vid}, State: api.Passing}
}

// made is a bridge with ports.
func made(t *testing.T, age int, l ...api.PortSet) *bridge.Bridge {
	t.Helper()
	b, err := bridge.New(l, age)
	if b == nil || err != nil {
		t.Fatalf("New(%v, %d) = %v, %v", l, age, b, err)
	}
	return b
}

// sets asks that a port's state is set.
func sets(t *testing.T, b *bridge.Bridge, port, state int) {
	t.Helper()
	if err := b.State(port, state); err != nil {
		t.Errorf("State(%d, %d) = %v", port, state, err)
	}
}

// sends is what a bridge sends.
func sends(t *testing.T, b *bridge.Bridge, port int, f api.Frame, now int) []api.Sent {
	t.Helper()
	l, err := b.In(port, f, now)
	if err != nil {
		t.Errorf("In(%d, %v, %d): %v", port, f, now, err)
	}
	return l
}

// by asks by which ports a frame is sent.
func by(t *testing.T, b *bridge.Bridge, port int, f api.Frame, now int, want ...int) {
	t.Helper()
	var ports []int
	for _, x := range sends(t, b, port, f, now) {
		ports = append(ports, x.Port)
	}
	if !slices.Equal(ports, want) {
		t.Errorf("In(%d, %v, %d) by %v, want %v", port, f, now, ports, want)
	}
}

// refuses asks for an error of In, which has no place.
func refuses(t *testing.T, b *bridge.Bridge, port int, f api.Frame, now int, want api.Errno) {
	t.Helper()
	l, err := b.In(port, f, now)
	if e, at := plain.Place(err); l != nil || e != want || at != none {
		t.Errorf("In(%d, %v, %d) = %v, error %d at %d, want %d", port, f, now, l, e, at, want)
	}
}

// is asks where an address is.
func is(t *testing.T, b *bridge.Bridge, vid int, a api.Addr, now, want int) {
	t.Helper()
	if port := b.Where(vid, a, now); port != want {
		t.Errorf("Where(%d, %v, %d) = %d, want %d", vid, a, now, port, want)
	}
}

// upTo is the numbers from one to another one.
func upTo(first, last int) (l []int) {
	for n := first; n <= last; n++ {
		l = append(l, n)
	}
	return l
}

// 20.1: the settings that may be.
func TestRight(t *testing.T) {
	for _, p := range []api.PortSet{
		{Pvid: 1, State: api.Blocked},
		{Pvid: 4094, State: api.Learning},
		{Pvid: 7, State: api.Passing, In: []int{}, Bare: []int{}},
		{Pvid: 7, State: api.Passing, In: []int{1}},
		{Pvid: 7, State: api.Passing, In: []int{4094}, Bare: []int{4094}},
		{Pvid: 7, State: api.Passing, In: []int{1, 2, 7, 4094}, Bare: []int{1, 4094}},
		{Pvid: 7, State: api.Passing, In: []int{1, 2, 7, 4094}, Bare: []int{2, 7}},
		{Pvid: 7, State: api.Passing, In: upTo(1, 64), Bare: upTo(1, 64)},
		{Pvid: 7, State: api.Passing, In: upTo(4031, 4094), Bare: upTo(4094, 4094)},
	} {
		if !bridge.Right(p) {
			t.Errorf("%v isn't Right", p)
		}
	}
}

// 20.1: the settings that may not be.
func TestNotRight(t *testing.T) {
	set := func(in, out []int) api.PortSet {
		return api.PortSet{Pvid: 1, State: api.Passing, In: in, Bare: out}
	}
	l := []api.PortSet{
		{},
		set(upTo(1, 65), nil),
		set(upTo(1, 65), upTo(1, 65)),
		set(upTo(1, 64), upTo(1, 65)),
		set(upTo(2, 4094), nil),
		set([]int{2, 2}, nil),
		set([]int{1, 2, 2}, nil),
		set([]int{2, 1}, nil),
		set([]int{1, 5, 3, 7}, nil),
		set([]int{1, 2, 3}, []int{2, 2}),
		set([]int{1, 2, 3}, []int{3, 2}),
		set([]int{1, 2, 3}, []int{3, 1}),
		set(nil, []int{1}),
		set([]int{2}, []int{1}),
		set([]int{2}, []int{3}),
		set([]int{1, 3}, []int{1, 2}),
		set([]int{1, 3}, []int{1, 2, 3}),
	}
	for _, vid := range []int{math.MinInt, -1, 0, 4095, 4096, 1<<32 + 1, math.MaxInt} {
		l = append(l, api.PortSet{Pvid: vid, State: api.Passing}, set([]int{vid}, nil), set(nil, []int{vid}), set([]int{vid}, []int{vid}))
		ends := []int{vid, 7}
		slices.Sort(ends)
		l = append(l, set(ends, nil), set([]int{7}, ends), set(ends, ends))
	}
	for _, state := range []int{math.MinInt, -1, 0, 4, 5, 1<<32 + 1, math.MaxInt} {
		l = append(l, api.PortSet{Pvid: 1, State: state})
	}
	for _, p := range l {
		if bridge.Right(p) {
			t.Errorf("%v is Right", p)
		}
		if b, err := bridge.New([]api.PortSet{p}, 10); b != nil || err == nil {
			t.Errorf("New of %v = %v", p, b)
		}
	}
}

// 20.1: a new bridge, with any number of ports that may be, knows no address.
func TestNew(t *testing.T) {
	for n := range api.MaxPorts + 1 {
		for _, age := range []int{1, 10, 300} {
			b := made(t, age, slices.Repeat([]api.PortSet{open(1)}, n)...)
			is(t, b, 1, addr(1), 0, -1)
			if n > 0 {
				by(t, b, n-1, from(1, addr(2)), 0, upTo(0, n-2)...)
			}
			refuses(t, b, n, from(1, addr(2)), 0, api.ErrRange)
		}
	}
}

// 20.1: the errors of New, and their order.
func TestNewRefuses(t *testing.T) {
	bad := api.PortSet{Pvid: 1}
	for _, c := range []struct {
		l    []api.PortSet
		age  int
		want api.Errno
		at   int
	}{
		{slices.Repeat([]api.PortSet{open(1)}, 9), 10, api.ErrLimit, none},
		{slices.Repeat([]api.PortSet{open(1)}, 100), 10, api.ErrLimit, none},
		{slices.Repeat([]api.PortSet{bad}, 9), 0, api.ErrLimit, none},
		{[]api.PortSet{bad}, 10, api.ErrArg, 0},
		{[]api.PortSet{open(1), bad, open(2), bad}, 10, api.ErrArg, 1},
		{append(slices.Repeat([]api.PortSet{open(1)}, 7), bad), 10, api.ErrArg, 7},
		{[]api.PortSet{open(1), open(2), open(4095)}, 0, api.ErrArg, 2},
		{nil, 0, api.ErrRange, none},
		{nil, 301, api.ErrRange, none},
		{[]api.PortSet{open(1)}, -1, api.ErrRange, none},
		{[]api.PortSet{open(1)}, 0, api.ErrRange, none},
		{[]api.PortSet{open(1)}, 301, api.ErrRange, none},
		{[]api.PortSet{open(1)}, math.MaxInt, api.ErrRange, none},
		{[]api.PortSet{open(1)}, math.MinInt, api.ErrRange, none},
	} {
		b, err := bridge.New(c.l, c.age)
		if e, at := plain.Place(err); b != nil || e != c.want || at != c.at {
			t.Errorf("New(%v, %d) = %v, error %d at %d, want %d at %d", c.l, c.age, b, e, at, c.want, c.at)
		}
	}
}

// 20.1: a port is in the state that it was set to last.
func TestState(t *testing.T) {
	b := made(t, 10, open(1), open(1), open(1))
	for port := range 3 {
		others := slices.DeleteFunc(upTo(0, 2), func(n int) bool { return n == port })
		for _, state := range []int{api.Learning, api.Blocked} {
			sets(t, b, port, state)
			by(t, b, others[0], from(8, everyone), 0, others[1])
			by(t, b, others[1], from(9, everyone), 0, others[0])
			by(t, b, port, from(7, everyone), 0)
		}
		sets(t, b, port, api.Passing)
		by(t, b, others[0], from(8, everyone), 0, slices.DeleteFunc(upTo(0, 2), func(n int) bool { return n == others[0] })...)
		by(t, b, port, from(7, everyone), 0, others...)
	}
}

// 20.1: what was learned at a port that is Blocked is forgotten, and nothing else.
func TestStateForgets(t *testing.T) {
	b := made(t, 10, open(1, 2), open(1, 2), open(1, 2))
	for n := range 9 {
		sends(t, b, n%3, from(byte(n), everyone, customer(1+n/6)), 5)
	}
	sets(t, b, 0, api.Learning)
	sets(t, b, 0, api.Passing)
	for n := range 9 {
		is(t, b, 1+n/6, addr(byte(n)), 5, n%3)
	}
	sets(t, b, 1, api.Blocked)
	sets(t, b, 2, api.Learning)
	for n := range 9 {
		want := n % 3
		if want == 1 {
			want = -1
		}
		is(t, b, 1+n/6, addr(byte(n)), 5, want)
	}
	sets(t, b, 1, api.Passing)
	is(t, b, 1, addr(1), 5, -1)
	sends(t, b, 1, from(1, everyone), 5)
	is(t, b, 1, addr(1), 5, 1)
}

// 20.1: the errors of State, which change nothing.
func TestStateRefuses(t *testing.T) {
	b := made(t, 10, open(1), open(1))
	sends(t, b, 0, from(1, everyone), 0)
	sends(t, b, 1, from(2, everyone), 0)
	refuse := func(port, state int) {
		if e, at := plain.Place(b.State(port, state)); e != api.ErrRange || at != none {
			t.Errorf("State(%d, %d): error %d at %d", port, state, e, at)
		}
	}
	for _, port := range []int{math.MinInt, -1, 2, 7, 8, 1 << 32, math.MaxInt} {
		for state := range 5 {
			refuse(port, state)
		}
	}
	for _, state := range []int{math.MinInt, -1, 0, 4, 5, 1<<32 + 1, math.MaxInt} {
		refuse(0, state)
		refuse(1, state)
	}
	is(t, b, 1, addr(1), 0, 0)
	is(t, b, 1, addr(2), 0, 1)
	by(t, b, 0, from(3, everyone), 0, 1)
	by(t, b, 1, from(4, everyone), 0, 0)
	if e, at := plain.Place(made(t, 10).State(0, api.Passing)); e != api.ErrRange || at != none {
		t.Errorf("State of no ports: error %d at %d", e, at)
	}
}

// 20.1: Where is Look: of this VID, this address and this time.
func TestWhere(t *testing.T) {
	b := made(t, 10, open(1, 2), open(1, 2), open(1, 2))
	sends(t, b, 2, from(1, everyone, customer(2)), 100)
	for _, now := range []int{math.MinInt, 0, 100, 110} {
		is(t, b, 2, addr(1), now, 2)
	}
	for _, now := range []int{111, math.MaxInt} {
		is(t, b, 2, addr(1), now, -1)
	}
	for _, vid := range []int{math.MinInt, -1, 0, 1, 3, 4095, math.MaxInt} {
		is(t, b, vid, addr(1), 100, -1)
	}
	is(t, b, 2, addr(2), 100, -1)
	is(t, b, 2, everyone, 100, -1)
	sends(t, b, 0, from(1, everyone, customer(2)), 100)
	is(t, b, 2, addr(1), 100, 0)
}

// 20.2: the VLAN of a frame, by its first tag or by its port.
func TestVid(t *testing.T) {
	b := made(t, 10,
		api.PortSet{Pvid: 5, In: []int{1, 5, 4094}, Bare: []int{5}, State: api.Passing},
		api.PortSet{Pvid: 5, In: []int{1, 6}, State: api.Blocked},
		api.PortSet{Pvid: 1, State: api.Learning})
	service := func(vid int) api.Tag { return api.Tag{S: true, Vid: vid} }
	for _, c := range []struct {
		port int
		tags []api.Tag
		want int
	}{
		{0, nil, 5},
		{0, []api.Tag{}, 5},
		{0, []api.Tag{customer(0)}, 5},
		{0, []api.Tag{{Pcp: 7, Dei: true}}, 5},
		{0, []api.Tag{customer(1)}, 1},
		{0, []api.Tag{customer(5)}, 5},
		{0, []api.Tag{customer(4094)}, 4094},
		{0, []api.Tag{customer(2)}, 0},
		{0, []api.Tag{customer(6)}, 0},
		{0, []api.Tag{service(1)}, 0},
		{0, []api.Tag{service(5)}, 0},
		{0, []api.Tag{service(0)}, 0},
		{0, []api.Tag{service(1), customer(1)}, 0},
		{0, []api.Tag{service(0), customer(0)}, 0},
		{1, nil, 0},
		{1, []api.Tag{customer(0)}, 0},
		{1, []api.Tag{customer(5)}, 0},
		{1, []api.Tag{customer(6)}, 6},
		{1, []api.Tag{customer(1)}, 1},
		{2, nil, 0},
		{2, []api.Tag{customer(1)}, 0},
		{3, nil, 0},
		{-1, nil, 0},
		{8, []api.Tag{customer(1)}, 0},
		{math.MaxInt, nil, 0},
		{math.MinInt, nil, 0},
	} {
		f := from(1, addr(2), c.tags...)
		if vid := b.Vid(c.port, f); vid != c.want {
			t.Errorf("Vid(%d, %v) = %d, want %d", c.port, f, vid, c.want)
		}
	}
	if vid := made(t, 10).Vid(0, from(1, addr(2))); vid != 0 {
		t.Errorf("Vid of no ports = %d", vid)
	}
}

// P1: Vid answers for a frame that isn't valid, too.
func TestVidOfAnyFrame(t *testing.T) {
	b := made(t, 10, open(1, 2))
	for _, vid := range []int{math.MinInt, -1, 4095, math.MaxInt} {
		b.Vid(0, from(1, addr(2), customer(vid)))
	}
	b.Vid(0, api.Frame{Tags: slices.Repeat([]api.Tag{customer(2)}, 100)})
}

// wrong are frames that may not be.
func wrong() []api.Frame {
	l := []api.Frame{
		{},
		from(1, addr(2), api.Tag{Pcp: 8, Vid: 1}),
		from(1, addr(2), customer(4095)),
		from(1, addr(2), customer(1), customer(1)),
		{Dst: addr(2), Src: addr(1), Kind: api.Ether, Type: 3},
		{Dst: addr(2), Src: addr(1), Kind: 4, Type: 0x800},
		{Dst: addr(2), Src: addr(1), Kind: api.Ether, Type: 0x800, Oui: 1},
		{Dst: addr(2), Src: addr(1), Kind: api.Ether, Type: 0x800, Body: strings.Repeat("x", 1987)},
	}
	return l
}

// 20.3: the errors of In, and their order; they change nothing.
func TestInRefuses(t *testing.T) {
	b := made(t, 10, open(1), open(1))
	sends(t, b, 0, from(1, everyone), 100)
	for _, port := range []int{math.MinInt, -1, 2, 3, 8, 1 << 32, math.MaxInt} {
		refuses(t, b, port, from(1, addr(2)), 100, api.ErrRange)
		refuses(t, b, port, api.Frame{}, 100, api.ErrRange)
		refuses(t, b, port, from(1, addr(2)), -1, api.ErrRange)
	}
	for _, f := range wrong() {
		for _, now := range []int{-1, 0, 100, 200} {
			refuses(t, b, 1, f, now, api.ErrArg)
		}
	}
	for _, now := range []int{math.MinInt, -1, 1<<40 + 1, math.MaxInt} {
		refuses(t, b, 1, from(1, addr(2)), now, api.ErrRange)
	}
	for _, now := range []int{0, 1, 99} {
		refuses(t, b, 1, from(1, addr(2)), now, api.ErrOrder)
	}
	is(t, b, 1, addr(1), 110, 0)
	by(t, b, 1, from(2, addr(1)), 100, 0)
	by(t, b, 1, from(2, addr(3)), 1<<40, 0)
}

// 20.3: a frame that isn't valid is refused wherever it would be sent nowhere.
func TestInRefusesFirst(t *testing.T) {
	b := made(t, 10, api.PortSet{Pvid: 1, State: api.Blocked}, api.PortSet{Pvid: 1, In: []int{2}, State: api.Learning})
	for _, f := range wrong() {
		for port := range 2 {
			refuses(t, b, port, f, 0, api.ErrArg)
			f.Dst = api.Addr{0x01, 0x80, 0xc2}
			refuses(t, b, port, f, 0, api.ErrArg)
		}
	}
}

// 20.3: what is sent nowhere before it is learned: also at a time at which Learn has an error.
func TestNothing(t *testing.T) {
	b := made(t, 10,
		api.PortSet{Pvid: 1, In: []int{1, 2}, State: api.Blocked},
		api.PortSet{Pvid: 3, In: []int{1, 2}, State: api.Passing},
		open(1, 2, 3))
	sends(t, b, 2, from(9, everyone), 100)
	quiet := func(port int, f api.Frame) {
		for _, now := range []int{math.MinInt, -1, 99, 100, 101, math.MaxInt} {
			by(t, b, port, f, now)
		}
		for vid := range 4 {
			is(t, b, vid, f.Src, 100, -1)
		}
	}
	quiet(0, from(1, everyone))
	quiet(0, from(1, addr(9)))
	quiet(0, from(1, everyone, customer(2)))
	quiet(1, from(1, everyone))
	quiet(1, from(1, addr(9)))
	quiet(1, from(1, everyone, customer(0)))
	quiet(1, from(1, everyone, customer(3)))
	quiet(1, from(1, everyone, api.Tag{S: true, Vid: 1}))
	quiet(1, from(1, everyone, api.Tag{S: true, Vid: 1}, customer(1)))
	for n := range 16 {
		quiet(1, from(1, api.Addr{0x01, 0x80, 0xc2, 0, 0, byte(n)}, customer(1)))
		quiet(2, from(1, api.Addr{0x01, 0x80, 0xc2, 0, 0, byte(n)}))
	}
	is(t, b, 1, addr(9), 110, 2)
}

// 20.3: other groups than the reserved ones are forwarded.
func TestGroups(t *testing.T) {
	b := made(t, 10, open(1), open(1), open(1))
	for _, a := range []api.Addr{{0x01, 0x80, 0xc2, 0, 0, 16}, {0x01, 0x80, 0xc2, 0, 0, 33}, {0x01, 0x80, 0xc2, 0, 0, 255}, {0x01, 0x80, 0xc2, 0, 1, 0}, {0x01, 0x80, 0xc3}, {0x03, 0x80, 0xc2}, {1}, everyone} {
		by(t, b, 1, from(1, a), 0, 0, 2)
	}
	by(t, b, 1, from(1, api.Addr{0x00, 0x80, 0xc2}), 0, 0, 2)
}

// 20.3: where a frame came from is learned, with its VLAN, at a port that is Learning or Passing; a group address never, and then no time is wrong.
func TestLearns(t *testing.T) {
	b := made(t, 10, open(1, 2), api.PortSet{Pvid: 2, In: []int{1, 2}, State: api.Learning}, open(1, 2))
	by(t, b, 0, from(1, everyone), 100, 2)
	by(t, b, 1, from(2, everyone), 100)
	by(t, b, 1, from(3, everyone, customer(1)), 100)
	by(t, b, 2, from(4, addr(3), customer(0)), 100)
	by(t, b, 2, from(5, addr(4), customer(2)), 100, 0)
	for _, c := range []struct {
		vid, n, port int
	}{{1, 1, 0}, {2, 2, 1}, {1, 3, 1}, {1, 4, 2}, {2, 5, 2}} {
		is(t, b, c.vid, addr(byte(c.n)), 110, c.port)
		is(t, b, 3-c.vid, addr(byte(c.n)), 110, -1)
		is(t, b, c.vid, addr(byte(c.n)), 111, -1)
	}
	for _, a := range []api.Addr{{1}, {3, 0, 0, 0, 0, 1}, everyone} {
		f := from(1, everyone)
		f.Src = a
		for _, now := range []int{math.MinInt, -1, 0, 99, 100, math.MaxInt} {
			by(t, b, 0, f, now, 2)
			by(t, b, 1, f, now)
			is(t, b, 1, a, now, -1)
		}
	}
	refuses(t, b, 1, from(2, everyone), 99, api.ErrOrder)
	refuses(t, b, 1, from(2, everyone), 1<<40+1, api.ErrRange)
	by(t, b, 1, from(2, everyone), 100)
}

// 20.3: the time of frames that are not learned does not hold back later ones.
func TestTimeOfGroups(t *testing.T) {
	b := made(t, 10, open(1), open(1))
	f := from(1, everyone)
	f.Src = everyone
	by(t, b, 0, f, 500, 1)
	by(t, b, 0, from(1, everyone), 0, 1)
}

// 20.3: a frame to a group, or to an address that isn't known, is sent by all other ports that pass and are of its VLAN.
func TestFlood(t *testing.T) {
	b := made(t, 10, open(1, 2), open(2), open(1), bare(1), bare(2), api.PortSet{Pvid: 1, In: []int{1, 2}, State: api.Learning}, api.PortSet{Pvid: 1, In: []int{1, 2}, State: api.Blocked}, api.PortSet{Pvid: 3, In: []int{1, 2}, Bare: []int{2}, State: api.Passing})
	for _, dst := range []api.Addr{everyone, {1}, addr(99), {}} {
		by(t, b, 0, from(1, dst), 0, 2, 3, 7)
		by(t, b, 0, from(1, dst, customer(1)), 0, 2, 3, 7)
		by(t, b, 0, from(1, dst, customer(2)), 0, 1, 4, 7)
		by(t, b, 1, from(1, dst), 0, 0, 4, 7)
		by(t, b, 2, from(1, dst), 0, 0, 3, 7)
		by(t, b, 3, from(1, dst), 0, 0, 2, 7)
		by(t, b, 4, from(1, dst), 0, 0, 1, 7)
		by(t, b, 5, from(1, dst), 0)
		by(t, b, 6, from(1, dst), 0)
		by(t, b, 7, from(1, dst), 0)
		by(t, b, 7, from(1, dst, customer(2)), 0, 0, 1, 4)
	}
	by(t, made(t, 10, open(1)), 0, from(1, everyone), 0)
}

// 20.3 and property 5: a frame to an address that is known is sent by its port alone, and not by any if it came from there, or if this port doesn't pass.
func TestKnown(t *testing.T) {
	b := made(t, 10, open(1, 2), open(1, 2), open(1, 2), open(1, 2))
	by(t, b, 2, from(1, everyone), 100, 0, 1, 3)
	by(t, b, 0, from(2, addr(1)), 110, 2)
	by(t, b, 3, from(3, addr(1)), 110, 2)
	by(t, b, 2, from(4, addr(1)), 110)
	by(t, b, 2, from(1, addr(2)), 110, 0)
	by(t, b, 0, from(2, addr(1), customer(2)), 110, 1, 2, 3)
	sets(t, b, 2, api.Learning)
	by(t, b, 0, from(2, addr(1)), 110)
	by(t, b, 0, from(2, addr(9)), 110, 1, 3)
	sets(t, b, 2, api.Blocked)
	by(t, b, 0, from(2, addr(1)), 110, 1, 3)
	sets(t, b, 2, api.Passing)
	by(t, b, 0, from(2, addr(1)), 110, 1, 2, 3)
}

// 20.3: an address is known up to its age, and at the port where it was heard last.
func TestMoves(t *testing.T) {
	b := made(t, 10, open(1), open(1), open(1))
	by(t, b, 2, from(1, everyone), 100, 0, 1)
	by(t, b, 0, from(2, addr(1)), 110, 2)
	by(t, b, 0, from(2, addr(1)), 111, 1, 2)
	by(t, b, 2, from(1, everyone), 111, 0, 1)
	by(t, b, 1, from(1, everyone), 111, 0, 2)
	by(t, b, 0, from(2, addr(1)), 111, 1)
	by(t, b, 2, from(3, addr(1)), 121, 1)
	// From a group, a frame is looked up at its own time, whatever was learned last.
	f := from(0, addr(1))
	f.Src = everyone
	by(t, b, 2, f, 0, 1)
	by(t, b, 2, f, 122, 0, 1)
}

// 20.3: the example, and a frame from an address to itself.
func TestExample(t *testing.T) {
	b := made(t, 10, open(1), open(1))
	by(t, b, 0, from(1, everyone), 0, 1)
	by(t, b, 0, from(2, addr(1)), 0)
	by(t, b, 0, from(3, addr(3)), 0)
	by(t, b, 1, from(1, addr(1)), 0)
	is(t, b, 1, addr(1), 0, 1)
}

// 20.3: the tag with which a frame leaves, or none.
func TestTags(t *testing.T) {
	both := api.PortSet{Pvid: 1, In: []int{1, 2}, Bare: []int{1}, State: api.Passing}
	b := made(t, 10, open(1, 2), both, open(2, 3), bare(2), bare(1))
	for _, c := range []struct {
		port      int
		in        []api.Tag
		out       api.Tag
		bare, not []int
	}{
		{0, nil, customer(1), []int{1, 4}, nil},
		{0, []api.Tag{{}}, customer(1), []int{1, 4}, nil},
		{0, []api.Tag{{Pcp: 5}}, api.Tag{Pcp: 5, Vid: 1}, []int{1, 4}, nil},
		{0, []api.Tag{{Pcp: 7, Dei: true, Vid: 2}}, api.Tag{Pcp: 7, Dei: true, Vid: 2}, []int{3}, []int{1, 2}},
		{0, []api.Tag{{Pcp: 1, Vid: 2}}, api.Tag{Pcp: 1, Vid: 2}, []int{3}, []int{1, 2}},
		{1, []api.Tag{{Dei: true}}, api.Tag{Dei: true, Vid: 1}, []int{4}, []int{0}},
		{2, nil, customer(2), []int{3}, []int{0, 1}},
		{2, []api.Tag{{Pcp: 3, Dei: true}}, api.Tag{Pcp: 3, Dei: true, Vid: 2}, []int{3}, []int{0, 1}},
		{3, nil, customer(2), nil, []int{0, 1, 2}},
		{3, []api.Tag{{Pcp: 6}}, api.Tag{Pcp: 6, Vid: 2}, nil, []int{0, 1, 2}},
		{4, nil, customer(1), []int{1}, []int{0}},
	} {
		f := from(1, everyone, c.in...)
		l := sends(t, b, c.port, f, 0)
		if len(l) != len(c.bare)+len(c.not) {
			t.Errorf("In(%d, %v): %v", c.port, f, l)
		}
		for _, x := range l {
			want := []api.Tag{c.out}
			if slices.Contains(c.bare, x.Port) {
				want = nil
			} else if !slices.Contains(c.not, x.Port) {
				t.Errorf("In(%d, %v) by %d", c.port, f, x.Port)
			}
			if !slices.Equal(x.Frame.Tags, want) {
				t.Errorf("In(%d, %v) by %d with %v, want %v", c.port, f, x.Port, x.Frame.Tags, want)
			}
		}
	}
}

// 20.3: but for its tags, a frame leaves as it came.
func TestFrames(t *testing.T) {
	b := made(t, 10, open(1), open(1), bare(1))
	for _, f := range []api.Frame{
		{Dst: everyone, Src: addr(1), Kind: api.Ether, Type: 0x88f5, Body: ""},
		{Dst: addr(2), Src: addr(1), Tags: []api.Tag{{Pcp: 3, Dei: true, Vid: 1}}, Kind: api.Ether, Type: 65535, Body: "\x00\xff"},
		{Dst: addr(3), Src: addr(1), Kind: api.Llc, Dsap: 66, Ssap: 67, Ctl: 3, Body: "message"},
		{Dst: everyone, Src: everyone, Tags: []api.Tag{{Pcp: 3}}, Kind: api.Snap, Oui: 1<<24 - 1, Pid: 65535, Body: "text"},
		{Dst: everyone, Src: addr(1), Tags: []api.Tag{{Pcp: 3}}, Kind: api.Ether, Type: 0x800, Body: strings.Repeat("x", 1982)},
	} {
		l := sends(t, b, 0, f, 0)
		if len(l) != 2 {
			t.Fatalf("In(0, %v): %v", f, l)
		}
		for _, x := range l {
			if !frame.Right(x.Frame) {
				t.Errorf("%v may not be", x.Frame)
			}
			x.Frame.Tags = f.Tags
			if !frame.Same(x.Frame, f) {
				t.Errorf("%v leaves as %v", f, x.Frame)
			}
		}
	}
}

// 20.3: a frame leaves with its tag even where it has more than MaxFrame bytes then: the document has no error and no exception for it.
func TestLongFrame(t *testing.T) {
	b := made(t, 10, open(1), open(1), bare(1))
	f := from(1, everyone)
	f.Body = strings.Repeat("x", api.MaxFrame-14)
	l := sends(t, b, 0, f, 0)
	if len(l) != 2 || !slices.Equal(l[0].Frame.Tags, []api.Tag{customer(1)}) || l[0].Frame.Body != f.Body || !frame.Same(l[1].Frame, f) {
		t.Errorf("%v", l)
	}
}

// P4: a bridge keeps nothing of its arguments, and changes nothing in them.
func TestArguments(t *testing.T) {
	in, out := []int{1, 2, 3, 9}, []int{1, 2, 9}
	l := []api.PortSet{{Pvid: 1, In: in[:3], Bare: out[:2], State: api.Passing}, open(1, 2, 3), open(1)}
	b := made(t, 10, l[:2]...)
	tags := []api.Tag{{Pcp: 4}, {Pcp: 5, Vid: 9}}
	by(t, b, 0, from(1, everyone, tags[:1]...), 0, 1)
	if !slices.Equal(in, []int{1, 2, 3, 9}) || !slices.Equal(out, []int{1, 2, 9}) || !slices.Equal(tags, []api.Tag{{Pcp: 4}, {Pcp: 5, Vid: 9}}) || !reflect.DeepEqual(l[2], open(1)) {
		t.Errorf("In, Bare, tags or ports are %v, %v, %v, %v", in, out, tags, l)
	}
	in[1], out[1] = 7, 7
	l[0].State, l[1].In[1] = api.Blocked, 8
	by(t, b, 0, from(1, everyone, customer(2)), 0, 1)
	by(t, b, 0, from(1, everyone, customer(7)), 0)
	if l := sends(t, b, 1, from(2, everyone, customer(2)), 0); len(l) != 1 || len(l[0].Frame.Tags) != 0 {
		t.Errorf("In(1) = %v", l)
	}
	sets(t, b, 1, api.Blocked)
	if l[1].State != api.Passing {
		t.Errorf("an argument has changed")
	}
}

// P4: no two frames that are sent, and none that came, share memory.
func TestNewMemory(t *testing.T) {
	b := made(t, 10, open(1), open(1), open(1), open(1))
	f := from(1, everyone, customer(1))
	l := sends(t, b, 0, f, 0)
	again := sends(t, b, 0, f, 0)
	if len(l) != 3 || len(again) != 3 {
		t.Fatalf("%v", l)
	}
	l[0].Frame.Tags[0].Vid = 99
	again[2].Frame.Tags[0].Vid = 98
	l[1] = api.Sent{}
	for _, x := range []api.Frame{f, l[2].Frame, again[0].Frame, again[1].Frame, sends(t, b, 0, f, 0)[0].Frame} {
		if x.Tags[0].Vid != 1 {
			t.Errorf("a tag is shared: %v", x)
		}
	}
}

// P4: a bridge knows nothing of another one.
func TestApart(t *testing.T) {
	ports := []api.PortSet{open(1), open(1), open(1)}
	b, other := made(t, 10, ports...), made(t, 10, ports...)
	sends(t, b, 0, from(1, everyone), 50)
	is(t, other, 1, addr(1), 50, -1)
	sets(t, b, 2, api.Blocked)
	by(t, other, 0, from(1, everyone), 0, 1, 2)
	is(t, b, 1, addr(1), 50, 0)
}

// A model: of each port and VID how a frame leaves, in place of lists.
const (
	never = iota
	tagged
	untagged
)

type model struct {
	pvid, state []int
	how         []map[int]int
	known       *learn.Table
}

// vid is the VLAN of a frame at a port that there is.
func (m *model) vid(port int, f api.Frame) int {
	v := m.pvid[port]
	for i, x := range f.Tags {
		if x.S {
			return 0
		}
		if i == 0 && x.Vid > 0 {
			v = x.Vid
		}
	}
	if m.how[port][v] == never {
		return 0
	}
	return v
}

// in is what is sent, of a frame that may be and a port that there is.
func (m *model) in(port int, f api.Frame, now int) ([]api.Sent, api.Errno) {
	v := m.vid(port, f)
	link := string(f.Dst[:5]) == "\x01\x80\xc2\x00\x00" && f.Dst[5] < 16
	if m.state[port] == api.Blocked || v == 0 || link {
		return nil, api.OK
	}
	if f.Src[0]%2 == 0 {
		if err := m.known.Learn(v, f.Src, port, now); err != nil {
			return nil, api.Tell(err)
		}
	}
	first, last := 0, len(m.state)-1
	if at := m.known.Look(v, f.Dst, now); f.Dst[0]%2 == 0 && at >= 0 {
		first, last = at, at
	}
	var l []api.Sent
	for i := first; i <= last && m.state[port] == api.Passing; i++ {
		g := f
		switch m.how[i][v] {
		case never:
			continue
		case untagged:
			g.Tags = nil
		case tagged:
			x := api.Tag{Vid: v}
			if len(f.Tags) > 0 {
				x.Pcp, x.Dei = f.Tags[0].Pcp, f.Tags[0].Dei
			}
			g.Tags = []api.Tag{x}
		}
		if i != port && m.state[i] == api.Passing {
			l = append(l, api.Sent{Port: i, Frame: g})
		}
	}
	return l, api.OK
}

// drawnPort is how a port may be set, for both.
func drawnPort(source *rand.Rand) (p api.PortSet, how map[int]int) {
	how = map[int]int{}
	p = api.PortSet{Pvid: 1 + source.Intn(4), State: 1 + source.Intn(3)}
	if source.Intn(2) == 0 {
		p.State = api.Passing
	}
	for v := 1; v <= 4; v++ {
		if source.Intn(4) == 0 {
			continue
		}
		p.In, how[v] = append(p.In, v), tagged
		if source.Intn(2) == 0 {
			p.Bare, how[v] = append(p.Bare, v), untagged
		}
	}
	return p, how
}

// drawnFrame is a frame that may be.
func drawnFrame(source *rand.Rand) api.Frame {
	f := from(byte(source.Intn(9)), addr(byte(source.Intn(9))))
	switch source.Intn(6) {
	case 0:
		f.Dst = everyone
	case 1:
		f.Dst = api.Addr{0x01, 0x80, 0xc2, 0, 0, byte(10 + source.Intn(12))}
	}
	if source.Intn(12) == 0 {
		f.Src = everyone
	}
	switch source.Intn(8) {
	case 0, 1, 2, 3:
		f.Tags = []api.Tag{{Pcp: source.Intn(8), Dei: source.Intn(2) == 0, Vid: source.Intn(6)}}
	case 4:
		f.Tags = []api.Tag{{S: true, Vid: source.Intn(5)}, {Vid: source.Intn(5)}}[:1+source.Intn(2)]
	}
	return f
}

// 20.2, 20.3 and property 5: whatever was called before, a bridge tells what the model tells, and no frame leaves where it came.
func TestDrawn(t *testing.T) {
	source := rand.New(rand.NewSource(20))
	seen, counts := map[api.Errno]int{}, map[int]int{}
	for range 300 {
		age := 1 + source.Intn(60)
		known, _ := learn.New(age)
		m := &model{known: known}
		var l []api.PortSet
		for range 2 + source.Intn(7) {
			p, how := drawnPort(source)
			l = append(l, p)
			m.pvid, m.state, m.how = append(m.pvid, p.Pvid), append(m.state, p.State), append(m.how, how)
		}
		b := made(t, age, l...)
		for now := range 100 {
			port, f, at := source.Intn(len(l)), drawnFrame(source), now-source.Intn(20)/19*3
			if vid, want := b.Vid(port, f), m.vid(port, f); vid != want {
				t.Fatalf("%v: Vid(%d, %v) = %d, want %d", l, port, f, vid, want)
			}
			want, e := m.in(port, f, at)
			got, err := b.In(port, f, at)
			if err, place := plain.Place(err); !reflect.DeepEqual(got, want) || err != e || place != none {
				t.Fatalf("%v: In(%d, %v, %d) = %v, error %d at %d, want %v, %d", l, port, f, at, got, err, place, want, e)
			}
			if slices.ContainsFunc(got, func(x api.Sent) bool { return x.Port == port }) {
				t.Fatalf("%v: In(%d, %v, %d) = %v", l, port, f, at, got)
			}
			seen[e]++
			counts[len(got)]++
			if source.Intn(15) == 0 {
				state := 1 + source.Intn(3)
				sets(t, b, port, state)
				m.state[port] = state
				if state == api.Blocked {
					m.known.Forget(port)
				}
			}
			for v := 1; v <= 4; v++ {
				is(t, b, v, f.Src, now, m.known.Look(v, f.Src, now))
				is(t, b, v, f.Dst, now, m.known.Look(v, f.Dst, now))
			}
		}
	}
	if seen[api.ErrOrder] == 0 || seen[api.ErrRange] == 0 || counts[0] == 0 || counts[1] == 0 || counts[2] == 0 || counts[7] == 0 {
		t.Errorf("too few were drawn: %v, %v", seen, counts)
	}
}
