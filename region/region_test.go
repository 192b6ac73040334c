package region_test

import (
	"crypto/hmac"
	"crypto/md5"
	"encoding/hex"
	"math"
	"math/rand"
	"slices"
	"testing"

	"switchyard/api"
	"switchyard/plain"
	"switchyard/region"
)

// rows are a list in short: From, To and Inst of each span.
type rows [][3]int

// of is a list.
func of(l rows) []api.Span {
	var spans []api.Span
	for _, x := range l {
		spans = append(spans, api.Span{From: x[0], To: x[1], Inst: x[2]})
	}
	return spans
}

// right are lists that may be, and the shortest ones that tell the same.
var right = []struct{ l, least rows }{
	{nil, nil},
	{rows{}, nil},
	{rows{{1, 1, 1}}, rows{{1, 1, 1}}},
	{rows{{4094, 4094, 64}}, rows{{4094, 4094, 64}}},
	{rows{{1, 4094, 64}}, rows{{1, 4094, 64}}},
	{rows{{1, 4094, 0}}, nil},
	{rows{{5, 9, 0}, {10, 10, 0}}, nil},
	{rows{{1, 2, 3}, {3, 4, 3}}, rows{{1, 4, 3}}},
	{rows{{1, 2, 3}, {3, 4, 3}, {5, 5, 3}, {6, 4094, 3}}, rows{{1, 4094, 3}}},
	{rows{{1, 2, 3}, {3, 4, 5}}, rows{{1, 2, 3}, {3, 4, 5}}},
	{rows{{1, 2, 3}, {4, 5, 3}}, rows{{1, 2, 3}, {4, 5, 3}}},
	{rows{{1, 2, 3}, {3, 3, 0}, {4, 5, 3}}, rows{{1, 2, 3}, {4, 5, 3}}},
	{rows{{1, 2, 0}, {3, 4, 7}, {5, 5, 7}, {6, 6, 0}, {7, 9, 7}, {10, 20, 8}, {21, 22, 8}, {23, 23, 7}, {24, 4094, 0}}, rows{{3, 5, 7}, {7, 9, 7}, {10, 22, 8}, {23, 23, 7}}},
	{rows{{100, 200, 2}, {300, 400, 1}}, rows{{100, 200, 2}, {300, 400, 1}}},
}

// wrong are lists that may not be.
func wrong() [][]api.Span {
	var l []rows
	for _, x := range []int{math.MinInt, -4096, -1, 0, 51, 4094, 4095, 4096, 65537, math.MaxInt} {
		l = append(l, rows{{x, 50, 1}})
	}
	for _, x := range []int{math.MinInt, -1, 0, 49, 4095, 4096, 65536, math.MaxInt} {
		l = append(l, rows{{50, x, 1}})
	}
	for _, x := range []int{math.MinInt, -64, -1, 65, 66, 128, 1 << 32, math.MaxInt} {
		l = append(l, rows{{50, 60, x}}, rows{{1, 4094, x}})
	}
	l = append(l,
		rows{{}}, rows{{0, 0, 1}}, rows{{0, 4094, 1}}, rows{{1, 4095, 1}}, rows{{4095, 4095, 1}},
		// They meet, or the later one is lower; also where both are of one instance, or of none.
		rows{{1, 5, 1}, {5, 9, 2}}, rows{{1, 5, 1}, {5, 9, 1}}, rows{{1, 5, 0}, {5, 9, 0}}, rows{{1, 9, 1}, {3, 4, 2}}, rows{{10, 20, 1}, {1, 5, 2}},
		rows{{10, 20, 1}, {9, 9, 1}}, rows{{7, 7, 1}, {7, 7, 1}}, rows{{1, 1, 1}, {4, 4, 1}, {2, 2, 1}}, rows{{1, 4094, 1}, {4095, 4095, 1}},
	)
	for _, x := range right {
		l = append(l, append(slices.Clone(x.l), [3]int{}), append(rows{{0, 0, 1}}, x.l...))
	}
	var lists [][]api.Span
	for _, x := range l {
		lists = append(lists, of(x))
	}
	return lists
}

// instOf is what 11.1 says of Inst.
func instOf(l []api.Span, vid int) int {
	i := slices.IndexFunc(l, func(x api.Span) bool { return vid >= x.From && vid <= x.To })
	if i < 0 {
		return 0
	}
	return l[i].Inst
}

// drawn is a list that may be, of about so many spans, the same each time for a source.
func drawn(source *rand.Rand, most int) []api.Span {
	var l []api.Span
	at := 1
	for range source.Intn(most + 1) {
		from := at + source.Intn(2)*source.Intn(8000/most)
		to := from + source.Intn(2)*source.Intn(8000/most)
		if to > 4094 {
			break
		}
		l = append(l, api.Span{From: from, To: to, Inst: []int{0, 1, 2, 63, 64}[source.Intn(5)]})
		at = to + 1
	}
	return l
}

// lists are many that may be.
func lists() [][]api.Span {
	var l [][]api.Span
	for _, x := range right {
		l = append(l, of(x.l), of(x.least))
	}
	source := rand.New(rand.NewSource(11))
	for range 100 {
		l = append(l, drawn(source, 5), drawn(source, 60), drawn(source, 2000))
	}
	return append(l, of(each(func(int) int { return 64 })), of(each(func(vid int) int { return vid % 65 })))
}

// each has a span of its own for every VID.
func each(inst func(vid int) int) rows {
	var l rows
	for vid := 1; vid <= 4094; vid++ {
		l = append(l, [3]int{vid, vid, inst(vid)})
	}
	return l
}

// 11.1: lists that may be, and such that may not, which give nothing but ErrArg, without a place.
func TestRight(t *testing.T) {
	for _, l := range lists() {
		if !region.Right(l) {
			t.Errorf("Right(%v) = false", l)
		}
	}
	for _, l := range wrong() {
		if region.Right(l) {
			t.Errorf("Right(%v) = true", l)
		}
		table, err := region.Table(l)
		refused(t, "Table", l, err, table == "")
		digest, err := region.Digest(l)
		refused(t, "Digest", l, err, digest == "")
		least, err := region.Least(l)
		refused(t, "Least", l, err, len(least) == 0)
	}
}

// refused asks for ErrArg without a place, and nothing with it.
func refused(t *testing.T, what string, l []api.Span, err error, nothing bool) {
	t.Helper()
	if e, at := plain.Place(err); e != api.ErrArg || at != -1 || !nothing {
		t.Errorf("%s(%v): error %d at %d, nothing with it: %v; want ErrArg without a place", what, l, e, at, nothing)
	}
}

// 11.1: every number from 0 to 64 is an instance, every VID from 1 to 4094 may begin and end a span.
func TestRightEdges(t *testing.T) {
	for inst := -3; inst <= 70; inst++ {
		if got, want := region.Right(of(rows{{7, 8, inst}})), inst >= 0 && inst <= 64; got != want {
			t.Errorf("Right with Inst %d = %v", inst, got)
		}
	}
	for vid := -3; vid <= 4100; vid++ {
		if got, want := region.Right(of(rows{{vid, vid, 1}})), vid >= 1 && vid <= 4094; got != want {
			t.Errorf("Right with VID %d = %v", vid, got)
		}
		if got, want := region.Right(of(rows{{20, 30, 1}, {vid, 4094, 2}})), vid > 30 && vid <= 4094; got != want {
			t.Errorf("Right with %d after 30 = %v", vid, got)
		}
	}
}

// 11.1: the first span that has a VID tells, whether the list may be or not.
func TestInst(t *testing.T) {
	for _, l := range append(lists(), wrong()...) {
		for _, vid := range []int{math.MinInt, -1, 0, 1, 2, 3, 5, 9, 50, 55, 60, 100, 4093, 4094, 4095, 4096, math.MaxInt} {
			if got, want := region.Inst(l, vid), instOf(l, vid); got != want {
				t.Errorf("Inst(%v, %d) = %d, want %d", l, vid, got, want)
			}
		}
	}
	for _, c := range []struct {
		l         rows
		vid, want int
	}{
		{rows{{10, 20, 5}}, 9, 0},
		{rows{{10, 20, 5}}, 10, 5},
		{rows{{10, 20, 5}}, 20, 5},
		{rows{{10, 20, 5}}, 21, 0},
		{rows{{10, 20, 5}, {15, 30, 6}}, 15, 5},
		{rows{{10, 20, 5}, {15, 30, 6}}, 21, 6},
		{rows{{10, 20, 0}, {15, 30, 6}}, 15, 0},
		{rows{{15, 30, 6}, {10, 20, 5}}, 15, 6},
		{rows{{20, 10, 5}}, 15, 0},
		{rows{{-5, 5, 99}}, 0, 99},
		{rows{{4000, 5000, -7}}, 4500, -7},
	} {
		if got := region.Inst(of(c.l), c.vid); got != c.want {
			t.Errorf("Inst(%v, %d) = %d, want %d", c.l, c.vid, got, c.want)
		}
	}
}

// 11.1: a number of two bytes for every VID from 0 to 4095.
func TestTable(t *testing.T) {
	for _, l := range lists() {
		want := make([]byte, 0, 8192)
		for vid := range 4096 {
			want = append(want, 0, byte(instOf(l, vid)))
		}
		if got, err := region.Table(l); got != string(want) || err != nil {
			t.Errorf("Table(%v): %d bytes, %v, not what is wanted", l, len(got), err)
		}
	}
}

// 11.1: the digests that IEEE 802.1Q tells; the first one is the example.
func TestDigest(t *testing.T) {
	for _, c := range []struct {
		l      rows
		digits string
	}{
		{nil, "ac36177f50283cd4b83821d8ab26de62"},
		{rows{{1, 4094, 0}}, "ac36177f50283cd4b83821d8ab26de62"},
		{rows{{1, 4094, 1}}, "e13a80f11ed0856acd4ee3476941c73b"},
		{each(func(vid int) int { return vid%32 + 1 }), "9d145c267dbe9fb5d893441be3ba08ce"},
	} {
		if got, err := region.Digest(of(c.l)); hex.EncodeToString([]byte(got)) != c.digits || err != nil {
			t.Errorf("Digest(%v) = %x, %v, want %s", c.l, got, err, c.digits)
		}
	}
}

// 11.1: a digest is that of the table, as Go's library has it.
func TestDigestOfTable(t *testing.T) {
	key, err := hex.DecodeString("13ac06a62e47fd51f95d2ba243cd0346")
	if err != nil {
		t.Fatal(err)
	}
	for _, l := range lists() {
		table, _ := region.Table(l)
		h := hmac.New(md5.New, key)
		h.Write([]byte(table))
		if got, err := region.Digest(l); got != string(h.Sum(nil)) || err != nil {
			t.Errorf("Digest(%v) = %x, %v, want %x", l, got, err, h.Sum(nil))
		}
	}
}

// Property 3: digests are equal where the assignments are.
func TestDigestsOfEqual(t *testing.T) {
	tables := map[string]string{}
	for _, l := range lists() {
		table, _ := region.Table(l)
		digest, _ := region.Digest(l)
		if other, ok := tables[digest]; ok && other != table {
			t.Errorf("Digest(%v) = %x, which another table has, too", l, digest)
		}
		tables[digest] = table
		least, err := region.Least(l)
		if again, e := region.Digest(least); again != digest || err != nil || e != nil {
			t.Errorf("Digest of the Least of %v = %x, %v, %v, want %x", l, again, err, e, digest)
		}
	}
}

// 11.1: the shortest lists, among them those that are so already.
func TestLeast(t *testing.T) {
	for _, c := range right {
		for _, l := range []rows{c.l, c.least} {
			if got, err := region.Least(of(l)); !slices.Equal(got, of(c.least)) || err != nil {
				t.Errorf("Least(%v) = %v, %v, want %v", l, got, err, c.least)
			}
		}
	}
	whole := of(rows{{1, 4094, 64}})
	if got, err := region.Least(of(each(func(int) int { return 64 }))); !slices.Equal(got, whole) || err != nil {
		t.Errorf("Least of one span a VID = %v, %v, want %v", got, err, whole)
	}
}

// 11.1: the shortest list has one span for each run of VIDs of one instance that is not 0.
func TestLeastOfMany(t *testing.T) {
	for _, l := range lists() {
		var want []api.Span
		for vid := 1; vid <= 4094; vid++ {
			inst, before := instOf(l, vid), instOf(l, vid-1)
			switch {
			case inst == 0:
			case inst == before:
				want[len(want)-1].To = vid
			default:
				want = append(want, api.Span{From: vid, To: vid, Inst: inst})
			}
		}
		if got, err := region.Least(l); !slices.Equal(got, want) || err != nil || !region.Right(got) {
			t.Errorf("Least(%v) = %v, %v, want %v", l, got, err, want)
		}
	}
}

// P4: lists are not changed, nor the memory behind them, and a result is memory of its own.
func TestArgsStay(t *testing.T) {
	for _, l := range append(lists(), wrong()...) {
		room := append(slices.Clone(l), api.Span{From: -1, To: -2, Inst: -3}, api.Span{From: -4, To: -5, Inst: -6})
		before := slices.Clone(room)
		arg := room[:len(l)]
		region.Right(arg)
		region.Inst(arg, 7)
		region.Table(arg)
		region.Digest(arg)
		first, _ := region.Least(arg)
		second, _ := region.Least(arg)
		kept := slices.Clone(second)
		for i := range first {
			first[i] = api.Span{From: 77, To: 78, Inst: 79}
		}
		_ = append(first, api.Span{From: 77, To: 78, Inst: 79})
		if !slices.Equal(room, before) || !slices.Equal(second, kept) {
			t.Errorf("%v: changed to %v, or the second Least to %v", before, room, second)
		}
	}
}
