package span

import (
	"math"
	"testing"

	"grapevine/api"
)

const (
	lowest  = math.MinInt32
	highest = math.MaxInt32
)

// small are all spans with ends from -4 to 4, the empty ones too.
func small() []api.Span {
	all := []api.Span{}
	for from := int32(-4); from <= 4; from++ {
		for to := int32(-4); to <= 4; to++ {
			all = append(all, api.Span{From: from, To: to})
		}
	}
	return all
}

var ends = []int32{lowest, lowest + 1, -1 << 30, -1<<16 - 1, -2, -1, 0, 1, 2, 1 << 16, 1 << 30, highest - 1, highest}

// wide are all spans with ends out of a few, far apart, the empty ones too.
func wide() []api.Span {
	all := []api.Span{}
	for _, from := range ends {
		for _, to := range ends {
			all = append(all, api.Span{From: from, To: to})
		}
	}
	return all
}

// within is the chapter's term, by itself: v is from From to To.
func within(s api.Span, v int32) bool {
	return !(v < s.From) && !(v > s.To)
}

func isEmpty(s api.Span) bool {
	return s.From > s.To
}

// near are numbers at, beside and between the ends.
func near() []int32 {
	all := []int32{}
	for _, e := range ends {
		all = append(all, e-1, e, e+1)
	}
	return all
}

// P4.1

func TestHas(t *testing.T) {
	for _, s := range append(small(), wide()...) {
		for v := int32(-6); v <= 6; v++ {
			if Has(s, v) != within(s, v) {
				t.Error(s, v)
			}
		}
		for _, v := range near() {
			if Has(s, v) != within(s, v) {
				t.Error(s, v)
			}
		}
	}
}

func TestHasAtTheEnds(t *testing.T) {
	for i, x := range []struct {
		s    api.Span
		v    int32
		want bool
	}{
		{api.Span{From: 3, To: 5}, 2, false},
		{api.Span{From: 3, To: 5}, 3, true},
		{api.Span{From: 3, To: 5}, 4, true},
		{api.Span{From: 3, To: 5}, 5, true},
		{api.Span{From: 3, To: 5}, 6, false},
		{api.Span{From: 5, To: 3}, 4, false},
		{api.Span{From: 5, To: 3}, 5, false},
		{api.Span{From: 5, To: 3}, 3, false},
		{api.Span{}, 0, true},
		{api.Span{}, 1, false},
		{api.Span{From: lowest, To: highest}, lowest, true},
		{api.Span{From: lowest, To: highest}, highest, true},
		{api.Span{From: lowest, To: lowest}, highest, false},
		{api.Span{From: highest, To: lowest}, 0, false},
		{api.Span{From: highest, To: lowest}, lowest, false},
		{api.Span{From: highest, To: lowest}, highest, false},
	} {
		if got := Has(x.s, x.v); got != x.want {
			t.Error(i, x, got)
		}
	}
}

func TestLenIsACount(t *testing.T) {
	for _, s := range small() {
		count := uint32(0)
		for v := int32(-6); v <= 6; v++ {
			if within(s, v) {
				count++
			}
		}
		if got := Len(s); got != count {
			t.Error(s, got, count)
		}
	}
}

func TestLen(t *testing.T) {
	for i, x := range []struct {
		s    api.Span
		want uint32
	}{
		{api.Span{From: 3, To: 3}, 1},
		{api.Span{From: 5, To: 4}, 0},
		{api.Span{}, 1},
		{api.Span{From: lowest, To: highest}, 4294967295},
		{api.Span{From: lowest + 1, To: highest}, 4294967295},
		{api.Span{From: lowest, To: highest - 1}, 4294967295},
		{api.Span{From: lowest + 1, To: highest - 1}, 4294967294},
		{api.Span{From: lowest + 2, To: highest}, 4294967294},
		{api.Span{From: lowest, To: -1}, 1 << 31},
		{api.Span{From: lowest, To: 0}, 1<<31 + 1},
		{api.Span{From: 0, To: highest}, 1 << 31},
		{api.Span{From: -1, To: highest}, 1<<31 + 1},
		{api.Span{From: 1, To: highest}, 1<<31 - 1},
		{api.Span{From: lowest, To: lowest}, 1},
		{api.Span{From: highest, To: highest}, 1},
		{api.Span{From: highest, To: lowest}, 0},
		{api.Span{From: highest, To: highest - 1}, 0},
		{api.Span{From: lowest + 1, To: lowest}, 0},
		{api.Span{From: 0, To: lowest}, 0},
		{api.Span{From: highest, To: -1}, 0},
		{api.Span{From: highest, To: -2}, 0},
	} {
		if got := Len(x.s); got != x.want {
			t.Error(i, x.s, got)
		}
	}
}

// P4.2

func TestMeet(t *testing.T) {
	for _, a := range small() {
		for _, b := range small() {
			m, ok := Meet(a, b)
			some := false
			for v := int32(-6); v <= 6; v++ {
				both := within(a, v) && within(b, v)
				some = some || both
				if ok && within(m, v) != both {
					t.Error(a, b, m, v)
				}
			}
			if ok != some || !ok && m != (api.Span{}) || ok && isEmpty(m) {
				t.Error(a, b, m, ok)
			}
		}
	}
}

func TestMeetOfExamples(t *testing.T) {
	for i, x := range []struct {
		a, b, want api.Span
		ok         bool
	}{
		{api.Span{From: 1, To: 5}, api.Span{From: 4, To: 9}, api.Span{From: 4, To: 5}, true},
		{api.Span{From: 1, To: 3}, api.Span{From: 4, To: 9}, api.Span{}, false},
		{api.Span{From: 1, To: 4}, api.Span{From: 4, To: 9}, api.Span{From: 4, To: 4}, true},
		{api.Span{From: 1, To: 9}, api.Span{From: 3, To: 5}, api.Span{From: 3, To: 5}, true},
		{api.Span{From: 1, To: 9}, api.Span{From: 6, To: 5}, api.Span{}, false},
		{api.Span{From: 9, To: 1}, api.Span{From: 3, To: 5}, api.Span{}, false},
		{api.Span{From: 9, To: 1}, api.Span{From: 9, To: 1}, api.Span{}, false},
		{api.Span{}, api.Span{}, api.Span{}, true},
		{api.Span{}, api.Span{From: 1, To: 2}, api.Span{}, false},
		{api.Span{From: -7, To: -7}, api.Span{From: lowest, To: highest}, api.Span{From: -7, To: -7}, true},
		{api.Span{From: lowest, To: highest}, api.Span{From: lowest, To: highest}, api.Span{From: lowest, To: highest}, true},
		{api.Span{From: lowest, To: 0}, api.Span{From: 0, To: highest}, api.Span{}, true},
		{api.Span{From: lowest, To: lowest}, api.Span{From: highest, To: highest}, api.Span{}, false},
		{api.Span{From: lowest, To: highest}, api.Span{From: highest, To: highest}, api.Span{From: highest, To: highest}, true},
		{api.Span{From: lowest, To: highest}, api.Span{From: lowest, To: lowest}, api.Span{From: lowest, To: lowest}, true},
		{api.Span{From: lowest, To: highest}, api.Span{From: highest, To: lowest}, api.Span{}, false},
	} {
		if got, ok := Meet(x.a, x.b); got != x.want || ok != x.ok {
			t.Error(i, x, got, ok)
		}
	}
}

func TestCovers(t *testing.T) {
	for _, a := range small() {
		for _, b := range small() {
			all := true
			for v := int32(-6); v <= 6; v++ {
				all = all && (within(a, v) || !within(b, v))
			}
			if got := Covers(a, b); got != all {
				t.Error(a, b, got)
			}
		}
	}
}

func TestCoversOfExamples(t *testing.T) {
	for i, x := range []struct {
		a, b api.Span
		want bool
	}{
		{api.Span{From: 1, To: 9}, api.Span{From: 2, To: 3}, true},
		{api.Span{From: 2, To: 3}, api.Span{From: 1, To: 9}, false},
		{api.Span{From: 5, To: 5}, api.Span{From: 7, To: 6}, true},
		{api.Span{From: 9, To: 5}, api.Span{From: 7, To: 6}, true},
		{api.Span{From: 7, To: 6}, api.Span{From: 5, To: 5}, false},
		{api.Span{From: 7, To: 6}, api.Span{}, false},
		{api.Span{}, api.Span{From: 1, To: 0}, true},
		{api.Span{From: 1, To: 0}, api.Span{From: 1, To: 0}, true},
		{api.Span{From: 1, To: 9}, api.Span{From: 1, To: 9}, true},
		{api.Span{From: 1, To: 9}, api.Span{From: 0, To: 9}, false},
		{api.Span{From: 1, To: 9}, api.Span{From: 1, To: 10}, false},
		{api.Span{From: lowest, To: highest}, api.Span{From: lowest, To: highest}, true},
		{api.Span{From: lowest + 1, To: highest}, api.Span{From: lowest, To: highest}, false},
		{api.Span{From: lowest, To: highest - 1}, api.Span{From: lowest, To: highest}, false},
		{api.Span{From: highest, To: lowest}, api.Span{From: lowest, To: highest}, false},
		{api.Span{From: highest, To: lowest}, api.Span{From: highest, To: highest - 1}, true},
		{api.Span{From: lowest, To: lowest}, api.Span{From: highest, To: lowest}, true},
	} {
		if got := Covers(x.a, x.b); got != x.want {
			t.Error(i, x, got)
		}
	}
}

func TestHull(t *testing.T) {
	for _, a := range small() {
		for _, b := range small() {
			want := api.Span{From: 5, To: -5}
			for v := int32(-6); v <= 6; v++ {
				if within(a, v) || within(b, v) {
					want = api.Span{From: min(want.From, v), To: max(want.To, v)}
				}
			}
			if isEmpty(want) {
				want = api.Span{}
			}
			if got := Hull(a, b); got != want {
				t.Error(a, b, got, want)
			}
		}
	}
}

func TestHullOfExamples(t *testing.T) {
	for i, x := range []struct{ a, b, want api.Span }{
		{api.Span{From: 1, To: 2}, api.Span{From: 8, To: 9}, api.Span{From: 1, To: 9}},
		{api.Span{From: 8, To: 9}, api.Span{From: 1, To: 2}, api.Span{From: 1, To: 9}},
		{api.Span{From: 1, To: 9}, api.Span{From: 3, To: 4}, api.Span{From: 1, To: 9}},
		{api.Span{From: 1, To: 2}, api.Span{From: 9, To: 8}, api.Span{From: 1, To: 2}},
		{api.Span{From: -9, To: -99}, api.Span{From: 8, To: 9}, api.Span{From: 8, To: 9}},
		{api.Span{From: 2, To: 1}, api.Span{From: 9, To: 8}, api.Span{}},
		{api.Span{From: 2, To: 1}, api.Span{}, api.Span{}},
		{api.Span{From: 5, To: 5}, api.Span{}, api.Span{From: 0, To: 5}},
		{api.Span{From: lowest, To: lowest}, api.Span{From: highest, To: highest}, api.Span{From: lowest, To: highest}},
		{api.Span{From: highest, To: lowest}, api.Span{From: highest, To: highest}, api.Span{From: highest, To: highest}},
		{api.Span{From: lowest, To: lowest}, api.Span{From: highest, To: lowest}, api.Span{From: lowest, To: lowest}},
		{api.Span{From: highest, To: lowest}, api.Span{From: highest, To: lowest}, api.Span{}},
		{api.Span{From: highest, To: highest - 1}, api.Span{From: lowest + 1, To: lowest}, api.Span{}},
		{api.Span{From: 1, To: 0}, api.Span{From: lowest, To: highest}, api.Span{From: lowest, To: highest}},
	} {
		if got := Hull(x.a, x.b); got != x.want {
			t.Error(i, x, got)
		}
	}
}

// TestFarEnds holds all calls against the chapter's terms where the ends are far apart.
func TestFarEnds(t *testing.T) {
	for _, a := range wide() {
		for _, b := range wide() {
			m, ok := Meet(a, b)
			h := Hull(a, b)
			all := true
			for _, v := range near() {
				if both := within(a, v) && within(b, v); ok && within(m, v) != both || !ok && both {
					t.Fatal("meet", a, b, m, ok, v)
				}
				if one := within(a, v) || within(b, v); one && !within(h, v) {
					t.Fatal("hull", a, b, h, v)
				}
				all = all && (within(a, v) || !within(b, v))
			}
			if Covers(a, b) != all {
				t.Fatal("covers", a, b)
			}
			if !ok && m != (api.Span{}) || isEmpty(h) {
				t.Fatal("results", a, b, m, ok, h)
			}
			least := (within(a, h.From) || within(b, h.From)) && (within(a, h.To) || within(b, h.To))
			if nothing := isEmpty(a) && isEmpty(b); !nothing && !least || nothing && h != (api.Span{}) {
				t.Fatal("least hull", a, b, h)
			}
		}
	}
}

// P4.3

func TestCommutative(t *testing.T) {
	for _, list := range [][]api.Span{small(), wide()} {
		for _, a := range list {
			for _, b := range list {
				m, ok := Meet(a, b)
				turned, also := Meet(b, a)
				if m != turned || ok != also || Hull(a, b) != Hull(b, a) {
					t.Error(a, b)
				}
			}
		}
	}
}

func TestCoversHullAndMeet(t *testing.T) {
	list := small()
	for _, a := range list {
		for _, b := range list {
			h := Hull(a, b)
			m, ok := Meet(a, b)
			for _, c := range list {
				if Covers(c, a) && Covers(c, b) && !Covers(c, h) && !(isEmpty(a) && isEmpty(b)) {
					t.Error("hull", c, a, b)
				}
				if ok && Covers(a, c) && Covers(b, c) && !Covers(m, c) {
					t.Error("meet", c, a, b)
				}
				if !ok && Covers(a, c) && Covers(b, c) && !isEmpty(c) {
					t.Error("what both cover is covered by their meeting", c, a, b)
				}
			}
		}
	}
}
