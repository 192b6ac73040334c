package learn_test

import (
	"maps"
	"math"
	"math/rand"
	"slices"
	"testing"

	"switchyard/api"
	"switchyard/learn"
	"switchyard/plain"
)

// none is the place of an error that has none.
const none = -1

// addr is the address of one station, of any number.
func addr(n int) api.Addr { return api.Addr{2, 0, 0, 0, byte(n >> 8), byte(n)} }

// table is an empty one.
func table(t *testing.T, age int) *learn.Table {
	t.Helper()
	x, err := learn.New(age)
	if x == nil || err != nil {
		t.Fatalf("New(%d) = %v, %v", age, x, err)
	}
	return x
}

// learns asks that an address is learned.
func learns(t *testing.T, x *learn.Table, vid int, a api.Addr, port, now int) {
	t.Helper()
	if err := x.Learn(vid, a, port, now); err != nil {
		t.Errorf("Learn(%d, %v, %d, %d) = %v", vid, a, port, now, err)
	}
}

// refuses asks that an address is not learned, with this error, without a place.
func refuses(t *testing.T, x *learn.Table, vid int, a api.Addr, port, now int, want api.Errno) {
	t.Helper()
	if e, at := plain.Place(x.Learn(vid, a, port, now)); e != want || at != none {
		t.Errorf("Learn(%d, %v, %d, %d): error %d at %d, want %d without a place", vid, a, port, now, e, at, want)
	}
}

// looks asks for the port of an address.
func looks(t *testing.T, x *learn.Table, vid int, a api.Addr, now, want int) {
	t.Helper()
	if port := x.Look(vid, a, now); port != want {
		t.Errorf("Look(%d, %v, %d) = %d, want %d", vid, a, now, port, want)
	}
}

// has asks for the number of entries.
func has(t *testing.T, x *learn.Table, now, want int) {
	t.Helper()
	if n := x.Len(now); n != want {
		t.Errorf("Len(%d) = %d, want %d", now, n, want)
	}
}

// 19.1: the ages that may be.
func TestNew(t *testing.T) {
	for _, age := range []int{1, 2, 10, 299, 300} {
		x := table(t, age)
		has(t, x, 0, 0)
		looks(t, x, 1, addr(0), 0, -1)
	}
	for _, age := range []int{math.MinInt, -300, -1, 0, 301, 302, 600, 1 << 32, math.MaxInt} {
		x, err := learn.New(age)
		if e, at := plain.Place(err); x != nil || e != api.ErrRange || at != none {
			t.Errorf("New(%d) = %v, error %d at %d", age, x, e, at)
		}
	}
}

// 19.1: the example.
func TestExample(t *testing.T) {
	x := table(t, 10)
	learns(t, x, 1, addr(1), 3, 5)
	has(t, x, 15, 1)
	looks(t, x, 1, addr(1), 15, 3)
	has(t, x, 16, 0)
	looks(t, x, 1, addr(1), 16, -1)
}

// 19.1: an entry is alive up to its age and no longer, whatever the age and the time; also before it was heard, which is no later time at all.
func TestAlive(t *testing.T) {
	for _, age := range []int{1, 2, 255, 299, 300} {
		for _, time := range []int{0, 1, 1000, 1 << 32, api.MaxTime - 1, api.MaxTime} {
			x := table(t, age)
			learns(t, x, 7, addr(1), 4, time)
			for _, now := range []int{math.MinInt, math.MinInt + age, -1, 0, time - age - 1, time - 1, time, time + 1, time + age} {
				if now > time+age {
					continue
				}
				looks(t, x, 7, addr(1), now, 4)
				has(t, x, now, 1)
			}
			for _, now := range []int{time + age + 1, time + 2*age + 1, time + 1000, math.MaxInt - age, math.MaxInt} {
				looks(t, x, 7, addr(1), now, -1)
				has(t, x, now, 0)
			}
		}
	}
}

// 19.1: only an entry of both the VID and the address is meant, of any byte of it.
func TestLookOfOthers(t *testing.T) {
	x := table(t, 10)
	a := api.Addr{2, 3, 4, 5, 6, 7}
	learns(t, x, 5, a, 2, 0)
	for _, vid := range []int{math.MinInt, -5, -1, 0, 1, 4, 6, 4094, 4095, 1<<32 + 5, math.MaxInt} {
		looks(t, x, vid, a, 0, -1)
	}
	for i := range a {
		for bit := range 8 {
			b := a
			b[i] ^= 1 << bit
			looks(t, x, 5, b, 0, -1)
		}
	}
	looks(t, x, 5, a, 0, 2)
}

// 19.1: the bounds of what is learned.
func TestLearnAtTheBounds(t *testing.T) {
	x := table(t, 300)
	for _, vid := range []int{1, 2, 4093, 4094} {
		for port := range 8 {
			learns(t, x, vid, addr(port), port, 0)
			looks(t, x, vid, addr(port), 0, port)
		}
	}
	has(t, x, 0, 32)
	for _, a := range []api.Addr{{}, {0, 255, 255, 255, 255, 255}, {0x80}, {254, 1, 1, 1, 1, 1}} {
		learns(t, x, 1, a, 0, api.MaxTime)
		looks(t, x, 1, a, api.MaxTime, 0)
	}
	has(t, x, api.MaxTime, 4)
}

// 19.1: the errors of Learn, each alone.
func TestLearnRefuses(t *testing.T) {
	x := table(t, 10)
	learns(t, x, 1, addr(1), 0, 100)
	for _, a := range []api.Addr{{1}, {3, 0, 0, 0, 0, 1}, {255, 255, 255, 255, 255, 255}, {0x81}, {0x01, 0x80, 0xc2, 0, 0, 0}} {
		refuses(t, x, 1, a, 0, 100, api.ErrArg)
	}
	for _, vid := range []int{math.MinInt, -1, 0, 4095, 4096, 1<<32 + 1, math.MaxInt} {
		refuses(t, x, vid, addr(2), 0, 100, api.ErrArg)
	}
	for _, port := range []int{math.MinInt, -1, 8, 9, 256, 1 << 32, math.MaxInt} {
		refuses(t, x, 1, addr(2), port, 100, api.ErrArg)
	}
	for _, now := range []int{math.MinInt, -1, api.MaxTime + 1, 1 << 41, math.MaxInt} {
		refuses(t, x, 1, addr(2), 0, now, api.ErrRange)
	}
	for _, now := range []int{0, 1, 50, 99} {
		refuses(t, x, 1, addr(2), 0, now, api.ErrOrder)
	}
	has(t, x, 100, 1)
	looks(t, x, 1, addr(2), 100, -1)
	learns(t, x, 1, addr(2), 0, 100)
}

// 19.1: of several errors, the first one in their order.
func TestLearnOrderOfErrors(t *testing.T) {
	x := table(t, 10)
	learns(t, x, 1, addr(1), 0, 100)
	for _, now := range []int{math.MinInt, -1, 0, 99, 100, api.MaxTime + 1, math.MaxInt} {
		refuses(t, x, 1, api.Addr{1}, 0, now, api.ErrArg)
		refuses(t, x, 0, addr(1), 0, now, api.ErrArg)
		refuses(t, x, 1, addr(1), 8, now, api.ErrArg)
		refuses(t, x, 4095, api.Addr{1}, -1, now, api.ErrArg)
	}
	// What is below 0 is earlier, too.
	refuses(t, x, 1, addr(1), 0, -1, api.ErrRange)
}

// 19.1 and P2: a Learn with an error changes nothing: it removes nothing, moves nothing, and does not count as the last one.
func TestRefusedChangesNothing(t *testing.T) {
	x := table(t, 10)
	for n := range api.MaxTable {
		learns(t, x, 1, addr(n), n%8, 100)
	}
	refuses(t, x, 1, api.Addr{1}, 0, 1000, api.ErrArg)
	refuses(t, x, 0, addr(0), 7, 1000, api.ErrArg)
	refuses(t, x, 1, addr(0), 8, 1000, api.ErrArg)
	refuses(t, x, 1, addr(0), 7, api.MaxTime+1, api.ErrRange)
	refuses(t, x, 1, addr(0), 7, 99, api.ErrOrder)
	refuses(t, x, 1, addr(50), 7, 99, api.ErrOrder)
	has(t, x, 100, api.MaxTable)
	for n := range api.MaxTable {
		looks(t, x, 1, addr(n), 110, n%8)
	}
	learns(t, x, 1, addr(60), 5, 100)
	looks(t, x, 1, addr(0), 100, -1)
	looks(t, x, 1, addr(1), 100, 1)
}

// 19.1: the time of the last successful Learn counts when its entry is gone, too; other calls have no last time.
func TestOrder(t *testing.T) {
	x := table(t, 1)
	learns(t, x, 1, addr(1), 3, 0)
	learns(t, x, 1, addr(1), 3, 0)
	learns(t, x, 1, addr(1), 3, 50)
	x.Forget(3)
	has(t, x, 50, 0)
	refuses(t, x, 1, addr(1), 3, 49, api.ErrOrder)
	looks(t, x, 1, addr(1), 1000, -1)
	has(t, x, 1000, 0)
	learns(t, x, 1, addr(1), 3, 50)
	refuses(t, x, 1, addr(1), 3, 49, api.ErrOrder)
	learns(t, x, 1, addr(2), 3, api.MaxTime)
	refuses(t, x, 1, addr(2), 3, api.MaxTime-1, api.ErrOrder)
	learns(t, x, 1, addr(2), 3, api.MaxTime)
	other := table(t, 1)
	learns(t, other, 1, addr(1), 3, 0)
}

// 19.1: an address is at the port at which it was heard last, once, and from then on; in each VLAN for itself.
func TestLearnAgain(t *testing.T) {
	x := table(t, 10)
	learns(t, x, 1, addr(1), 2, 0)
	learns(t, x, 2, addr(1), 3, 1)
	learns(t, x, 1, addr(1), 4, 5)
	has(t, x, 5, 2)
	looks(t, x, 1, addr(1), 5, 4)
	looks(t, x, 2, addr(1), 5, 3)
	has(t, x, 12, 1)
	looks(t, x, 1, addr(1), 15, 4)
	looks(t, x, 2, addr(1), 12, -1)
	looks(t, x, 1, addr(1), 16, -1)
	learns(t, x, 1, addr(1), 4, 15)
	looks(t, x, 1, addr(1), 25, 4)
	has(t, x, 25, 1)
}

// 19.1: Learn removes what is not alive, for good; Look and Len remove nothing, however late they are.
func TestRemoved(t *testing.T) {
	x := table(t, 10)
	learns(t, x, 1, addr(1), 1, 0)
	learns(t, x, 1, addr(2), 2, 1)
	looks(t, x, 1, addr(1), math.MaxInt, -1)
	has(t, x, math.MaxInt, 0)
	has(t, x, 10, 2)
	looks(t, x, 1, addr(1), 10, 1)
	learns(t, x, 1, addr(3), 3, 10)
	has(t, x, 10, 3)
	learns(t, x, 1, addr(4), 4, 11)
	has(t, x, 0, 3)
	looks(t, x, 1, addr(1), 0, -1)
	looks(t, x, 1, addr(2), 0, 2)
	learns(t, x, 1, addr(4), 4, 22)
	has(t, x, 0, 1)
	has(t, x, 32, 1)
	has(t, x, 33, 0)
}

// 19.1: the one heard first makes room; of several at one time, that of the earliest call.
func TestRoom(t *testing.T) {
	for _, step := range []int{0, 1} {
		x := table(t, 300)
		for n := range 3 * api.MaxTable {
			now := n * step
			learns(t, x, 1, addr(n), n%8, now)
			has(t, x, now, min(n+1, api.MaxTable))
			looks(t, x, 1, addr(n-api.MaxTable), now, -1)
			for k := max(0, n-api.MaxTable+1); k <= n; k++ {
				looks(t, x, 1, addr(k), now, k%8)
			}
		}
	}
}

// 19.1: a full table: what is heard again needs no room, and is heard last from then on, at the same time, too.
func TestRoomOfTheSame(t *testing.T) {
	x := table(t, 300)
	for n := range api.MaxTable {
		learns(t, x, 1, addr(n), 0, 5)
	}
	for _, n := range []int{0, 31, 2, 0} {
		learns(t, x, 1, addr(n), 6, 5)
		has(t, x, 5, api.MaxTable)
	}
	first := []int{1}
	for n := 3; n < 31; n++ {
		first = append(first, n)
	}
	for i, n := range append(first, 31, 2, 0) {
		port := 0
		if i >= len(first) {
			port = 6
		}
		looks(t, x, 1, addr(n), 5, port)
		learns(t, x, 2, addr(i), 7, 5)
		looks(t, x, 1, addr(n), 5, -1)
		has(t, x, 5, api.MaxTable)
	}
}

// 19.1: a full table: where some are not alive, or are forgotten, nothing else makes room.
func TestRoomOfTheDead(t *testing.T) {
	x := table(t, 10)
	for n := range api.MaxTable {
		learns(t, x, 1, addr(n), n%8, n/30)
	}
	learns(t, x, 1, addr(40), 0, 11)
	has(t, x, 11, 3)
	for n := 30; n < api.MaxTable; n++ {
		looks(t, x, 1, addr(n), 11, n%8)
	}
	for n := range 29 {
		learns(t, x, 2, addr(n), 5, 11)
	}
	has(t, x, 11, api.MaxTable)
	x.Forget(31 % 8)
	has(t, x, 11, api.MaxTable-1)
	learns(t, x, 2, addr(29), 5, 11)
	has(t, x, 11, api.MaxTable)
	looks(t, x, 1, addr(30), 11, 30%8)
	learns(t, x, 2, addr(30), 5, 11)
	looks(t, x, 1, addr(30), 11, -1)
	looks(t, x, 1, addr(40), 11, 0)
}

// 19.1: Forget removes all of a port, and nothing else.
func TestForget(t *testing.T) {
	x := table(t, 10)
	for n := range 16 {
		learns(t, x, 1+n%2, addr(n), n/2, n)
	}
	for _, port := range []int{math.MinInt, -1, 8, 9, 1 << 32, math.MaxInt} {
		x.Forget(port)
		has(t, x, 0, 11)
	}
	x.Forget(7)
	has(t, x, 0, 9)
	looks(t, x, 1, addr(14), 0, -1)
	looks(t, x, 2, addr(15), 0, -1)
	x.Forget(3)
	x.Forget(3)
	has(t, x, 0, 7)
	for n := 5; n < 14; n++ {
		want := n / 2
		if want == 3 {
			want = -1
		}
		looks(t, x, 1+n%2, addr(n), 15, want)
	}
	learns(t, x, 1, addr(6), 3, 15)
	looks(t, x, 1, addr(6), 15, 3)
	table(t, 10).Forget(0)
}

// P4: a table knows nothing of another one.
func TestApart(t *testing.T) {
	x, y := table(t, 10), table(t, 10)
	learns(t, x, 1, addr(1), 1, 50)
	learns(t, y, 1, addr(1), 2, 0)
	looks(t, x, 1, addr(1), 50, 1)
	looks(t, y, 1, addr(1), 0, 2)
	y.Forget(1)
	has(t, x, 50, 1)
}

// A model tells the same as a table, with the number of the call in place of any order.
type key struct {
	vid  int
	addr api.Addr
}

type note struct{ port, time, call int }

type model struct {
	age, last, calls int
	notes            map[key]note
}

func (m *model) fault(k key, port, now int) api.Errno {
	switch {
	case k.addr[0]%2 == 1, k.vid < 1, k.vid > 4094, port < 0, port > 7:
		return api.ErrArg
	case now < 0, now > 1<<40:
		return api.ErrRange
	case now < m.last:
		return api.ErrOrder
	}
	return api.OK
}

func (m *model) learn(k key, port, now int) api.Errno {
	if e := m.fault(k, port, now); e != api.OK {
		return e
	}
	maps.DeleteFunc(m.notes, func(_ key, n note) bool { return now-n.time > m.age })
	m.calls++
	m.notes[k] = note{port, now, m.calls}
	for k, n := range m.notes {
		if len(m.notes) > 32 && n.call == m.first() {
			delete(m.notes, k)
		}
	}
	m.last = now
	return api.OK
}

// first is the earliest call of those whose notes there are.
func (m *model) first() int {
	return slices.MinFunc(slices.Collect(maps.Values(m.notes)), func(a, b note) int { return a.call - b.call }).call
}

func (m *model) look(k key, now int) int {
	if n, ok := m.notes[k]; ok && now-n.time <= m.age {
		return n.port
	}
	return -1
}

func (m *model) size(now int) int {
	n := 0
	for k := range m.notes {
		if m.look(k, now) >= 0 {
			n++
		}
	}
	return n
}

// one is a drawn number: now and then another one of a list.
func one(source *rand.Rand, x int, others ...int) int {
	if source.Intn(40) == 0 {
		return others[source.Intn(len(others))]
	}
	return x
}

// 19.1 and property 5: whatever was called before, a table tells what the model tells.
func TestDrawn(t *testing.T) {
	source := rand.New(rand.NewSource(19))
	seen := map[api.Errno]int{}
	full := 0
	for range 300 {
		age := []int{1, 5, 10, 100, 300}[source.Intn(5)]
		x, m := table(t, age), &model{age: age, notes: map[key]note{}}
		now, pace, stations := 0, 1+source.Intn(4), 5+source.Intn(90)
		for range 200 {
			now += source.Intn(pace)
			k := key{1 + source.Intn(2), addr(source.Intn(stations))}
			k.vid, k.addr[0] = one(source, k.vid, 0, 4095, -1), byte(one(source, 2, 1, 3, 255))
			port, at := one(source, source.Intn(8), -1, 8), one(source, now, now-1, now-age, -1, api.MaxTime+1, now+age)
			want, err := m.learn(k, port, at), x.Learn(k.vid, k.addr, port, at)
			if e, place := plain.Place(err); e != want || place != none {
				t.Fatalf("Learn(%v, %d, %d): error %d at %d, want %d", k, port, at, e, place, want)
			}
			seen[want]++
			now = max(now, m.last)
			if source.Intn(60) == 0 {
				x.Forget(port)
				maps.DeleteFunc(m.notes, func(_ key, n note) bool { return n.port == port })
			}
			for _, when := range []int{now - age, now, now + 1, now + age, now + age + 1} {
				has(t, x, when, m.size(when))
				k := key{1 + source.Intn(2), addr(source.Intn(stations))}
				looks(t, x, k.vid, k.addr, when, m.look(k, when))
			}
			full += m.size(now) / api.MaxTable
		}
	}
	if seen[api.OK] == 0 || seen[api.ErrArg] == 0 || seen[api.ErrRange] == 0 || seen[api.ErrOrder] == 0 || full == 0 {
		t.Errorf("too few were drawn: %v, %d", seen, full)
	}
}
