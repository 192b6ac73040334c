package tag_test

import (
	"math"
	"slices"
	"strconv"
	"strings"
	"testing"

	"switchyard/api"
	"switchyard/plain"
	"switchyard/tag"
)

// fails asks for an error without a place, and with it for no other result.
func fails[T comparable](t *testing.T, what string, got T, err error, want api.Errno) {
	t.Helper()
	if e, at := plain.Place(err); e != want || at != -1 {
		t.Errorf("%s: error %d at %d, want %d without a place", what, e, at, want)
	}
	var zero T
	if got != zero {
		t.Errorf("%s: %v with an error", what, got)
	}
}

// is asks for a result without an error.
func is[T comparable](t *testing.T, what string, got T, err error, want T) {
	t.Helper()
	if got != want || err != nil {
		t.Errorf("%s: %v, %v, want %v", what, got, err, want)
	}
}

// samples are tags, with the number and the text of each.
var samples = []struct {
	tag  api.Tag
	n    int
	text string
}{
	{api.Tag{}, 0, "c0.0"},
	{api.Tag{S: true}, 0, "s0.0"},
	{api.Tag{Pcp: 3, Dei: true, Vid: 5}, 28677, "c3!.5"},
	{api.Tag{Vid: 1}, 1, "c0.1"},
	{api.Tag{Vid: 10}, 10, "c0.10"},
	{api.Tag{Vid: 4094}, 4094, "c0.4094"},
	{api.Tag{Dei: true}, 4096, "c0!.0"},
	{api.Tag{Dei: true, Vid: 4094}, 8190, "c0!.4094"},
	{api.Tag{Pcp: 1}, 8192, "c1.0"},
	{api.Tag{S: true, Pcp: 6, Vid: 100}, 49252, "s6.100"},
	{api.Tag{Pcp: 7}, 57344, "c7.0"},
	{api.Tag{S: true, Pcp: 7, Dei: true, Vid: 4094}, 65534, "s7!.4094"},
}

// wrongTags are tags that may not be.
func wrongTags() []api.Tag {
	var l []api.Tag
	for _, x := range []int{math.MinInt, -4096, -8, -1, 8, 9, 256, 1 << 32, math.MaxInt} {
		l = append(l, api.Tag{Pcp: x, Vid: 5}, api.Tag{S: true, Pcp: x, Dei: true})
	}
	for _, x := range []int{math.MinInt, -4096, -1, 4095, 4096, 8192, 1 << 32, math.MaxInt} {
		l = append(l, api.Tag{Pcp: 3, Vid: x}, api.Tag{S: true, Dei: true, Vid: x})
	}
	// What is too much of the one is not made up for by the other.
	return append(l, api.Tag{Pcp: 8, Vid: -8192}, api.Tag{Pcp: -1, Vid: 8192}, api.Tag{Pcp: 1, Vid: -1})
}

// 3.1: what may be, and what may not.
func TestRight(t *testing.T) {
	for pcp := range 8 {
		for _, vid := range []int{0, 1, 2, 2048, 4093, 4094} {
			for _, flags := range []int{0, 1, 2, 3} {
				x := api.Tag{S: flags&1 != 0, Pcp: pcp, Dei: flags&2 != 0, Vid: vid}
				if !tag.Right(x) {
					t.Errorf("Right(%v) = false", x)
				}
			}
		}
	}
	for _, x := range wrongTags() {
		if tag.Right(x) {
			t.Errorf("Right(%v) = true", x)
		}
	}
}

// 3.1: which tags may stand together.
func TestStack(t *testing.T) {
	c, s := api.Tag{Pcp: 1, Vid: 5}, api.Tag{S: true, Vid: 5}
	for _, x := range []struct {
		l    []api.Tag
		want bool
	}{
		{nil, true},
		{[]api.Tag{}, true},
		{[]api.Tag{c}, true},
		{[]api.Tag{s}, true},
		{[]api.Tag{s, c}, true},
		{[]api.Tag{c, s}, false},
		{[]api.Tag{c, c}, false},
		{[]api.Tag{s, s}, false},
		{[]api.Tag{s, c, c}, false},
		{[]api.Tag{s, s, c}, false},
		{[]api.Tag{s, c, s}, false},
		{slices.Repeat([]api.Tag{s, c}, 500), false},
	} {
		if got := tag.Stack(x.l); got != x.want {
			t.Errorf("Stack(%v) = %v", x.l, got)
		}
	}
	for _, w := range wrongTags() {
		outer, inner := w, w
		outer.S, inner.S = true, false
		for _, l := range [][]api.Tag{{w}, {outer, c}, {s, inner}} {
			if tag.Stack(l) {
				t.Errorf("Stack(%v) = true", l)
			}
		}
	}
}

// P4: Stack leaves the list, and the memory behind it, as it was.
func TestStackKeeps(t *testing.T) {
	memory := []api.Tag{{S: true, Vid: 1}, {Vid: 2}, {Pcp: 9, Vid: 9999}}
	before := slices.Clone(memory)
	if !tag.Stack(memory[:2]) || tag.Stack(memory) {
		t.Error("Stack: another answer")
	}
	if !slices.Equal(memory, before) {
		t.Errorf("Stack changed the list to %v", memory)
	}
}

// 3.1 and 3.2: numbers and texts of some tags, in both directions.
func TestSamples(t *testing.T) {
	for _, x := range samples {
		n, err := tag.Pack(x.tag)
		is(t, "Pack of "+x.text, n, err, x.n)
		back, err := tag.Unpack(x.tag.S, x.n)
		is(t, "Unpack of "+x.text, back, err, x.tag)
		s, err := tag.Text(x.tag)
		is(t, "Text of "+x.text, s, err, x.text)
		back, err = tag.Parse(x.text)
		is(t, "Parse of "+x.text, back, err, x.tag)
	}
}

// 3.1 and 3.2: a tag that may not be has neither a number nor a text.
func TestWrongTags(t *testing.T) {
	for _, x := range wrongTags() {
		n, err := tag.Pack(x)
		fails(t, "Pack", n, err, api.ErrArg)
		s, err := tag.Text(x)
		fails(t, "Text", s, err, api.ErrArg)
	}
}

// 3.1 and 3.2: every number is one tag's, and this tag's text is its own, unless the VID is 4095.
func TestEveryNumber(t *testing.T) {
	texts := map[string]bool{}
	for n := range 1 << 16 {
		for _, s := range []bool{false, true} {
			x, err := tag.Unpack(s, n)
			if n&4095 == 4095 {
				fails(t, "Unpack", x, err, api.ErrForm)
				continue
			}
			is(t, "Unpack", x, err, api.Tag{S: s, Pcp: n >> 13, Dei: n>>12&1 == 1, Vid: n & 4095})
			back, err := tag.Pack(x)
			is(t, "Pack", back, err, n)
			text, err := tag.Text(x)
			if err != nil || texts[text] {
				t.Fatalf("Text(%v) = %q, %v", x, text, err)
			}
			texts[text] = true
			again, err := tag.Parse(text)
			is(t, "Parse of "+text, again, err, x)
		}
	}
}

// 3.1: a number of more than 16 bits is told before its VID.
func TestUnpackRange(t *testing.T) {
	for _, n := range []int{math.MinInt, -65536, -4096, -2, -1, 65536, 65537, 65536 + 4095, 1 << 32, 1<<32 + 4095, math.MaxInt} {
		for _, s := range []bool{false, true} {
			x, err := tag.Unpack(s, n)
			fails(t, "Unpack of "+strconv.Itoa(n), x, err, api.ErrRange)
		}
	}
}

// 3.2, and P5: what is no tag's text is ErrForm.
func TestParseRefuses(t *testing.T) {
	for _, s := range []string{
		"", ".", "c", "s", "c.", "c.5", "c3", "c3.", "3.5", "c3!", "c3!.", "c!.5", ".5", "!", "c3!5", "c35", "c3 5",
		"c8.5", "c9.5", "s/.5", "s:.5", "c-1.5", "c+3.5", "c03.5", "c33.5", "c3.5.", "c3..5", "c3.5.6",
		"c3.4095", "c3.4096", "s7!.4095", "c3.9999", "c3.05", "c3.00", "c3.+5", "c3.-5", "c3.-0", "c3.+0", "c3.5_0", "c3.0x5", "c3.5e1",
		"c3.99999999999999999999", "c3.18446744073709551621", "c3.-18446744073709551611",
		"C3.5", "S3.5", "x3.5", "b3.5", "\x003.5", "cc3.5", "sc3.5", "c3s.5",
		"c3!!.5", "c!3.5", "!c3.5", "c3.!5", "c3.5!", "c3?.5", "c3\x00.5", "c3.5\x00",
		" c3.5", "c3.5 ", "c 3.5", "c3 .5", "c3. 5", "c3.5\n", "c3!.5\r", "c3,5", "c3.é", "é3.5", "c３.5", "c3.５",
		"c3." + strings.Repeat("9", 10000), "c3." + strings.Repeat("0", 10000) + "5", strings.Repeat("c", 10000),
	} {
		x, err := tag.Parse(s)
		fails(t, "Parse of "+strconv.Quote(s), x, err, api.ErrForm)
	}
}

// 3.2: whatever one byte is added to a text, taken from it, or put in another's place: it is read as the tag that has it, or refused.
func TestParseOfEveryChange(t *testing.T) {
	texts := map[string]api.Tag{}
	for n := range 1 << 16 {
		for _, s := range []bool{false, true} {
			if x, err := tag.Unpack(s, n); err == nil {
				text, _ := tag.Text(x)
				texts[text] = x
			}
		}
	}
	check := func(s string) {
		x, err := tag.Parse(s)
		if want, ok := texts[s]; ok {
			is(t, "Parse of "+strconv.Quote(s), x, err, want)
			return
		}
		fails(t, "Parse of "+strconv.Quote(s), x, err, api.ErrForm)
	}
	for _, x := range samples {
		for i := range len(x.text) + 1 {
			head, tail := x.text[:i], x.text[i:]
			for c := range 256 {
				b := string([]byte{byte(c)})
				check(head + b + tail)
				if tail != "" {
					check(head + b + tail[1:])
				}
			}
			if tail != "" {
				check(head + tail[1:])
			}
		}
	}
}
