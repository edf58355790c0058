package schema

import (
	"bytes"
	"math"
	"slices"
	"testing"

	"grapevine/api"
)

const (
	lowest  = math.MinInt32
	highest = math.MaxInt32
)

// two is the schema of the chapter's examples.
var two = api.Schema{{From: 0, To: 9}, {From: -5, To: 5}}

// schemas are right ones: of one to four ranges, short and long, with 0 inside, at an end, below, and above.
var schemas = []api.Schema{
	two,
	{{From: 0, To: 0}},
	{{From: lowest, To: highest}},
	{{From: lowest, To: lowest}, {From: highest, To: highest}},
	{{From: 7, To: 9}, {From: -9, To: -7}, {From: 0, To: 3}},
	{{From: -1, To: 1}, {From: 5, To: 5}, {From: -3, To: 0}, {From: 100, To: 200}},
	{{From: 1, To: highest}, {From: lowest, To: -1}, {From: 0, To: highest}, {From: lowest, To: 0}},
}

var values = []int32{lowest, lowest + 1, -201, -10, -9, -8, -7, -6, -5, -4, -3, -2, -1, 0, 1, 2, 3, 4, 5, 6, 7, 8, 9, 10, 99, 100, 200, 201, highest - 1, highest}

// lists are lists of values of each length from 0 to 6.
func lists() [][]int32 {
	all := [][]int32{nil, {}}
	for n := 1; n <= 6; n++ {
		for i := range values {
			list := []int32{}
			for j := range n {
				list = append(list, values[(i+11*j)%len(values)])
			}
			all = append(all, list, slices.Repeat([]int32{values[i]}, n))
		}
	}
	return all
}

// fitting returns values that fit s, at its ends and between.
func fitting(s api.Schema) [][]int32 {
	low, high, mid := []int32{}, []int32{}, []int32{}
	for _, r := range s {
		low, high = append(low, r.From), append(high, r.To)
		mid = append(mid, int32((int64(r.From)+int64(r.To))/2))
	}
	return [][]int32{low, high, mid}
}

// event is right for the schema two.
func event() api.Event {
	return api.Event{ID: api.ID{Node: 3, Inc: 2, Seq: 7}, Vals: []int32{3, 5}, Data: []byte("abc")}
}

// full returns list as a slice with spare capacity, and all its memory.
func full[T any](list []T, spare T) (part, whole []T) {
	whole = append(append([]T{}, list...), spare, spare, spare, spare, spare, spare)
	return whole[:len(list)], whole
}

// fill writes into all the memory of list, spare capacity too.
func fill[T any](list []T, x T) {
	for i := range list[:cap(list)] {
		list[:cap(list)][i] = x
	}
}

// P3.1

func TestRight(t *testing.T) {
	for _, s := range schemas {
		if !Right(s) {
			t.Error("right", s)
		}
		for i := range s {
			if !Right(s[i:]) {
				t.Error("a part of it", s[i:])
			}
		}
	}
}

func TestRightOfCounts(t *testing.T) {
	for n := range 300 {
		s := make(api.Schema, n)
		if got, want := Right(s), n >= 1 && n <= 4; got != want {
			t.Error(n, got)
		}
	}
	if Right(nil) || Right(api.Schema{}) || Right(make(api.Schema, 1<<16+1)) || Right(make(api.Schema, 1<<16+4)) {
		t.Error("none, or very many")
	}
	part, _ := full(two, api.Span{From: 1, To: 0})
	if !Right(part) {
		t.Error("spare capacity does not count")
	}
}

func TestRightOfTurnedRanges(t *testing.T) {
	for _, r := range []api.Span{{From: 1, To: 0}, {From: 0, To: -1}, {From: highest, To: lowest}, {From: lowest + 1, To: lowest}, {From: highest, To: highest - 1}} {
		for n := 1; n <= 4; n++ {
			for i := range n {
				s := make(api.Schema, n)
				s[i] = r
				if Right(s) {
					t.Error(s)
				}
			}
		}
	}
}

// P3.2

func TestFits(t *testing.T) {
	for _, c := range []struct {
		vals []int32
		want bool
	}{
		{[]int32{3, 5}, true}, {[]int32{0, -5}, true}, {[]int32{9, 5}, true}, {[]int32{9, -5}, true},
		{[]int32{3, 6}, false}, {[]int32{3, -6}, false}, {[]int32{-1, 0}, false}, {[]int32{10, 0}, false}, {[]int32{10, 6}, false},
		{[]int32{lowest, 0}, false}, {[]int32{highest, 0}, false}, {[]int32{0, lowest}, false}, {[]int32{0, highest}, false},
		{nil, false}, {[]int32{}, false}, {[]int32{3}, false}, {[]int32{3, 5, 0}, false}, {[]int32{3, 5, 3, 5}, false},
	} {
		if got := Fits(two, c.vals); got != c.want {
			t.Error(c.vals, got)
		}
	}
}

// within tells, as the document says it, whether vals fit.
func within(s api.Schema, vals []int32) bool {
	fit := len(s) == len(vals)
	for i := 0; fit && i < len(s); i++ {
		fit = s[i].From <= vals[i] && vals[i] <= s[i].To
	}
	return fit
}

func TestFitsOfMany(t *testing.T) {
	for _, s := range schemas {
		for _, vals := range lists() {
			if got := Fits(s, vals); got != within(s, vals) {
				t.Error(s, vals, got)
			}
		}
		for _, vals := range fitting(s) {
			if !Fits(s, vals) {
				t.Error("fits", s, vals)
			}
			if Fits(s, vals[:len(vals)-1]) || Fits(s, append(vals, 0)) {
				t.Error("one less, or one more", s, vals)
			}
			part, _ := full(vals[:len(vals)-1], 0)
			if Fits(s, part) {
				t.Error("spare capacity counts", s, vals)
			}
		}
	}
}

func TestBring(t *testing.T) {
	for _, c := range []struct{ vals, want []int32 }{
		{[]int32{12, -9}, []int32{9, -5}}, {[]int32{4}, []int32{4, 0}}, {nil, []int32{0, 0}}, {[]int32{}, []int32{0, 0}},
		{[]int32{3, 5, 7}, []int32{3, 5}}, {[]int32{-1, 6, 1, 1, 1}, []int32{0, 5}},
		{[]int32{lowest, highest}, []int32{0, 5}}, {[]int32{highest, lowest}, []int32{9, -5}},
	} {
		if got := Bring(two, c.vals); !slices.Equal(got, c.want) {
			t.Error(c.vals, got, c.want)
		}
	}
	far := api.Schema{{From: 7, To: 9}, {From: -9, To: -7}}
	if got := Bring(far, nil); !slices.Equal(got, []int32{7, -7}) {
		t.Error("0 is brought into its range, too", got)
	}
}

func TestBringOfMany(t *testing.T) {
	for _, s := range schemas {
		for _, vals := range lists() {
			want := []int32{}
			for i, r := range s {
				x := int32(0)
				if i < len(vals) {
					x = vals[i]
				}
				if x < r.From {
					x = r.From
				}
				if x > r.To {
					x = r.To
				}
				want = append(want, x)
			}
			if got := Bring(s, vals); !slices.Equal(got, want) {
				t.Error(s, vals, got, want)
			}
		}
	}
}

func TestEvent(t *testing.T) {
	for node := range 256 {
		e := event()
		e.ID.Node = uint8(node)
		if got := Event(two, e); got != (node < 12) {
			t.Error("node", node, got)
		}
	}
	for _, inc := range []uint16{0, 1, 2, 255, 256, 65535} {
		e := event()
		e.ID.Inc = inc
		if got := Event(two, e); got != (inc > 0) {
			t.Error("incarnation", inc, got)
		}
	}
	for _, seq := range []uint32{0, 1, 2, 65536, 1 << 31, math.MaxUint32} {
		e := event()
		e.ID.Seq = seq
		if got := Event(two, e); got != (seq > 0) {
			t.Error("number", seq, got)
		}
	}
	for _, n := range []int{0, 1, 63, 64, 65, 66, 128, 256, 320, 65536} {
		e := event()
		e.Data = make([]byte, n)
		if got := Event(two, e); got != (n <= 64) {
			t.Error("data", n, got)
		}
	}
	if Event(two, api.Event{}) || Event(api.Schema{{From: 0, To: 0}}, api.Event{}) {
		t.Error("the zero event")
	}
}

func TestEventOfValues(t *testing.T) {
	for _, s := range schemas {
		for _, vals := range append(lists(), fitting(s)...) {
			e := event()
			e.Vals = vals
			if got := Event(s, e); got != within(s, vals) {
				t.Error(s, vals, got)
			}
		}
	}
}

func TestEventOfSpareCapacity(t *testing.T) {
	e := event()
	e.Data, _ = full(make([]byte, 64), 1)
	if !Event(two, e) {
		t.Error("data")
	}
	e.Vals, _ = full([]int32{3}, 5)
	if Event(two, e) {
		t.Error("values")
	}
}

// Other schemas: nothing is specified but that every call ends.

func TestOtherSchemas(t *testing.T) {
	for _, s := range []api.Schema{nil, {}, make(api.Schema, 5), make(api.Schema, 100), {{From: 1, To: 0}}, {{From: highest, To: lowest}, {}}} {
		for _, vals := range lists() {
			e := event()
			e.Vals = vals
			Right(s)
			Fits(s, vals)
			Bring(s, vals)
			Event(s, e)
		}
	}
}

// P3.3

// others are events that are each different from event, in one thing.
func others() []api.Event {
	all := []api.Event{{}}
	for _, id := range []api.ID{{}, {Node: 4, Inc: 2, Seq: 7}, {Node: 3, Inc: 3, Seq: 7}, {Node: 3, Inc: 2, Seq: 8}, {Node: 3, Inc: 7, Seq: 2}} {
		e := event()
		e.ID = id
		all = append(all, e)
	}
	for _, vals := range [][]int32{nil, {3}, {5}, {3, 5, 0}, {3, 5, 5}, {3, 4}, {4, 5}, {5, 3}, {-3, 5}} {
		e := event()
		e.Vals = vals
		all = append(all, e)
	}
	for _, data := range [][]byte{nil, []byte("ab"), []byte("bc"), []byte("abcd"), []byte("abc\x00"), []byte("abd"), []byte("xbc"), []byte("Abc"), make([]byte, 3), make([]byte, 100)} {
		e := event()
		e.Data = data
		all = append(all, e)
	}
	return all
}

func TestSame(t *testing.T) {
	if !Same(event(), event()) || !Same(api.Event{}, api.Event{}) {
		t.Error("the same")
	}
	all := append(others(), event())
	for i, a := range all {
		for j, b := range all {
			if got := Same(a, b); got != (i == j) {
				t.Error(a, b, got)
			}
		}
	}
}

func TestSameOfNothing(t *testing.T) {
	none := api.Event{ID: event().ID}
	empty := api.Event{ID: event().ID, Vals: []int32{}, Data: []byte{}}
	if !Same(none, empty) || !Same(empty, none) {
		t.Error("an empty list, and none")
	}
	a, b := event(), event()
	a.Vals, _ = full(a.Vals, 1)
	b.Vals, _ = full(b.Vals, 2)
	a.Data, _ = full(a.Data, 1)
	b.Data, _ = full(b.Data, 2)
	if !Same(a, b) {
		t.Error("spare capacity")
	}
}

// alike tells, by itself, whether two events are the same.
func alike(a, b api.Event) bool {
	return a.ID == b.ID && slices.Equal(a.Vals, b.Vals) && bytes.Equal(a.Data, b.Data)
}

func TestCopy(t *testing.T) {
	long := api.Event{ID: api.ID{Node: 255, Inc: 65535, Seq: math.MaxUint32}, Vals: slices.Repeat([]int32{lowest, highest}, 50), Data: bytes.Repeat([]byte{0, 255}, 500)}
	for _, e := range append(others(), event(), long, api.Event{Vals: []int32{}, Data: []byte{}}) {
		got := Copy(e)
		if !alike(got, e) || !Same(got, e) {
			t.Error(e, got)
		}
	}
}

func TestCopyIsItsOwn(t *testing.T) {
	e := event()
	first, second := Copy(e), Copy(e)
	fill(e.Vals, 77)
	fill(e.Data, 77)
	if !alike(first, event()) {
		t.Error("the original is changed", first)
	}
	fill(first.Vals, 88)
	fill(first.Data, 88)
	if !alike(second, event()) || e.Vals[0] != 77 || e.Data[0] != 77 {
		t.Error("a copy is changed", second, e)
	}
}

// P3.4

func TestWhatIsBroughtFits(t *testing.T) {
	for _, s := range schemas {
		for _, vals := range append(lists(), fitting(s)...) {
			got := Bring(s, vals)
			if !Fits(s, got) {
				t.Error(s, vals, got)
			}
			if !slices.Equal(Bring(s, got), got) {
				t.Error("what fits is changed", s, got)
			}
			if Fits(s, vals) != slices.Equal(vals, got) {
				t.Error("unchanged, if it fits", s, vals, got)
			}
		}
	}
}

// R3: arguments stay as they are, with their spare capacity, and results are memory of their own.

func TestArgumentsStay(t *testing.T) {
	for _, s := range append(schemas, nil, api.Schema{{From: 1, To: 0}}) {
		for _, list := range [][]int32{nil, {12}, {12, -9}, {3, 5}, {1, 2, 3, 4, 5, 6}} {
			ranges, allRanges := full(s, api.Span{From: 1, To: 2})
			vals, allVals := full(list, 42)
			data, allData := full([]byte("abc"), 42)
			keptRanges, keptVals, keptData := slices.Clone(allRanges), slices.Clone(allVals), slices.Clone(allData)
			e := api.Event{ID: event().ID, Vals: vals, Data: data}
			Right(ranges)
			Fits(ranges, vals)
			fill(Bring(ranges, vals), 99)
			Event(ranges, e)
			Same(e, e)
			copied := Copy(e)
			fill(copied.Vals, 99)
			fill(copied.Data, 99)
			if !slices.Equal(allRanges, keptRanges) || !slices.Equal(allVals, keptVals) || !bytes.Equal(allData, keptData) {
				t.Error(s, list, allRanges, allVals, allData)
			}
		}
	}
}

func TestResultsOutliveArguments(t *testing.T) {
	vals := []int32{12, -9, 4}
	got := Bring(two, vals)
	fill(vals, 99)
	if !slices.Equal(got, []int32{9, -5}) {
		t.Error(got)
	}
	fits := []int32{3, 5}
	got = Bring(two, fits)
	fill(fits, 99)
	if !slices.Equal(got, []int32{3, 5}) {
		t.Error("what fits", got)
	}
}
