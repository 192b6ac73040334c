package front_test

import (
	"math/rand"
	"slices"
	"strings"
	"testing"

	"switchyard/api"
	"switchyard/front"
	"switchyard/plain"
	"switchyard/verdict"
)

// none is the place of an error that has none.
const none = -1

// right is a verdict of each kind but Bad, at its number.
func right() [api.Verdicts]api.Verdict {
	known := func(n byte) api.Addr { return api.Addr{0x01, 0x80, 0xc2, 0, 0, n} }
	ether := func(dst api.Addr, n int) api.Frame { return api.Frame{Dst: dst, Kind: api.Ether, Type: n} }
	tree := api.Frame{Dst: known(0), Kind: api.Llc, Dsap: 0x42, Ssap: 0x42, Ctl: 3}
	name, port := api.Name{Sub: 7, ID: "1"}, api.Port{No: 1}
	return [...]api.Verdict{
		api.Data:     {Frame: ether(api.Addr{}, 0x0800)},
		api.IsArp:    {Frame: ether(api.Addr{}, 0x0806), Arp: api.Arp{Op: 1}},
		api.IsPause:  {Frame: ether(known(1), 0x8808)},
		api.IsBpdu:   {Frame: tree, Bpdu: api.Bpdu{Kind: api.Notice}},
		api.IsMst:    {Frame: tree, Mst: api.Mst{Base: api.Bpdu{Kind: api.Rapid, Port: port}, Digest: strings.Repeat("d", 16)}},
		api.IsLldp:   {Frame: ether(known(14), 0x88cc), Lldp: api.Lldp{Chassis: name, Port: name}},
		api.IsLacp:   {Frame: ether(known(2), 0x8809)},
		api.IsMarker: {Frame: ether(known(2), 0x8809)},
		api.IsMvrp:   {Frame: ether(known(33), 0x88f5)},
	}
}

// verdicts are those that are right, and one that is Bad.
func verdicts() []api.Verdict {
	l := right()
	for i := range l {
		l[i].Kind = i
	}
	return l[:]
}

// count is what a Front has counted.
type count struct {
	in, out [api.Verdicts]uint64
	refused uint64
}

// counts asks for what a Front has counted.
func counts(t *testing.T, f *front.Front, want count) {
	t.Helper()
	in, out, refused := f.Counts()
	if !slices.Equal(in, want.in[:]) || !slices.Equal(out, want.out[:]) || refused != want.refused {
		t.Errorf("Counts() = %v, %v, %v, want %v", in, out, refused, want)
	}
}

// takes asks for the verdict of Classify, and for one more of its kind.
func takes(t *testing.T, f *front.Front, s string, kind int, want *count) {
	t.Helper()
	v := f.Take(s)
	if !verdict.Same(v, verdict.Classify(s)) || v.Kind != kind {
		t.Errorf("Take(%x) = %+v", s, v)
	}
	want.in[kind]++
	counts(t, f, *want)
}

// puts asks for the frame of Encode, and for one more of its kind, or for one more that is refused.
func puts(t *testing.T, f *front.Front, v api.Verdict, want *count) {
	t.Helper()
	text, wrong := verdict.Encode(v)
	s, err := f.Put(v)
	if e, at := plain.Place(err); s != text || e != api.Tell(wrong) || at != none {
		t.Errorf("Put(%+v) = %x, error %d at %d", v, s, e, at)
	}
	if wrong == nil {
		want.out[v.Kind]++
	} else {
		want.refused++
	}
	counts(t, f, *want)
}

// 18.1: the zero value has counted nothing, of each kind.
func TestZero(t *testing.T) {
	var f front.Front
	counts(t, &f, count{})
	in, out, _ := f.Counts()
	if len(in) != api.Verdicts || len(out) != api.Verdicts {
		t.Errorf("%d and %d kinds", len(in), len(out))
	}
}

// 18.1: the example.
func TestExample(t *testing.T) {
	var f front.Front
	f.Take("")
	in, out, refused := f.Counts()
	if in[api.Bad] != 1 || slices.Max(out) != 0 || refused != 0 {
		t.Errorf("%v, %v, %v", in, out, refused)
	}
}

// 18.1: each kind that is taken, and that is put, is counted apart from the others; what is refused, too.
func TestEachKind(t *testing.T) {
	for kind, v := range verdicts() {
		var f front.Front
		var want count
		s, err := verdict.Encode(v)
		if (err == nil) != (kind != api.Bad) {
			t.Fatal(kind, err)
		}
		for range 300 {
			takes(t, &f, s, kind, &want)
		}
		for range 300 {
			puts(t, &f, v, &want)
		}
		if kind != api.Bad {
			v.Frame.Tags = make([]api.Tag, 3)
			puts(t, &f, v, &want)
		}
	}
}

// 18.1: what has no kind is refused, and counted as nothing else.
func TestNoKind(t *testing.T) {
	var f front.Front
	var want count
	for _, kind := range []int{-1, api.Bad, api.Verdicts, api.Verdicts + 1, 1 << 32, -1 << 63} {
		puts(t, &f, api.Verdict{Kind: kind}, &want)
	}
}

// 18.1: all kinds in any order, with frames that are Bad and verdicts that are refused among them; another Front counts none of it.
func TestDrawn(t *testing.T) {
	source := rand.New(rand.NewSource(18))
	var f, idle front.Front
	var want count
	for range 5000 {
		v := verdicts()[source.Intn(api.Verdicts)]
		if source.Intn(4) == 0 {
			v.Frame.Body = "b"
		}
		s, _ := verdict.Encode(v)
		b := []byte(s)
		if len(b) > 0 && source.Intn(4) == 0 {
			b[source.Intn(len(b))] ^= 1 << source.Intn(8)
		}
		if source.Intn(2) == 0 {
			takes(t, &f, string(b), verdict.Classify(string(b)).Kind, &want)
		} else {
			puts(t, &f, v, &want)
		}
	}
	if slices.Min(want.in[:]) == 0 || slices.Min(want.out[1:]) == 0 || want.refused == 0 {
		t.Errorf("too few were drawn: %v", want)
	}
	counts(t, &idle, count{})
}

// 18.1 and P4: counts are new memory, and stay as they were.
func TestMemory(t *testing.T) {
	var f front.Front
	f.Take("")
	f.Put(api.Verdict{})
	in, out, _ := f.Counts()
	before := slices.Clone(in)
	f.Take("")
	if !slices.Equal(in, before) {
		t.Errorf("%v has become %v", before, in)
	}
	for i := range in {
		in[i], out[i] = 7, 7
	}
	counts(t, &f, count{in: [api.Verdicts]uint64{2}, refused: 1})
}

// P4: what is put stays as it is.
func TestArguments(t *testing.T) {
	var f front.Front
	for _, v := range verdicts() {
		tags := []api.Tag{{Vid: 1}, {Vid: 2}, {Vid: 3}}
		v.Frame.Tags = tags[:1]
		before := v
		before.Frame.Tags = []api.Tag{{Vid: 1}}
		f.Put(v)
		if !verdict.Same(v, before) || !slices.Equal(tags, []api.Tag{{Vid: 1}, {Vid: 2}, {Vid: 3}}) {
			t.Errorf("%+v is %+v now", before, v)
		}
	}
}
