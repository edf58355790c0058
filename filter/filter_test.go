package filter

import (
	"math"
	"slices"
	"testing"

	"grapevine/api"
)

const (
	lowest  = math.MinInt32
	highest = math.MaxInt32
)

// two is the schema of the chapter's examples.
var two = api.Schema{{From: 0, To: 9}, {From: -5, To: 5}}

// schemas are right ones, of one to four ranges.
var schemas = []api.Schema{
	two,
	{{From: 0, To: 0}},
	{{From: -1, To: 1}},
	{{From: lowest, To: highest}},
	{{From: 1, To: 2}, {From: -1, To: 0}},
	{{From: lowest, To: lowest}, {From: highest, To: highest}},
	{{From: lowest, To: 0}, {From: 0, To: highest}},
	{{From: 7, To: 9}, {From: -9, To: -7}, {From: 0, To: 3}},
	{{From: -1, To: 1}, {From: 5, To: 5}, {From: -3, To: 0}, {From: lowest, To: highest}},
}

func sp(from, to int32) api.Span { return api.Span{From: from, To: to} }

// spans are all with ends out of a few, the empty ones too.
func spans(ends ...int32) []api.Span {
	all := []api.Span{}
	for _, from := range ends {
		for _, to := range ends {
			all = append(all, sp(from, to))
		}
	}
	return all
}

// small are all filters of none, one or two spans with ends from -1 to 2.
func small() []api.Filter {
	all := []api.Filter{nil, {}}
	few := spans(-1, 0, 1, 2)
	for _, a := range few {
		all = append(all, api.Filter{a})
		for _, b := range few {
			all = append(all, api.Filter{a, b})
		}
	}
	return all
}

// large are filters of one to six spans with ends near and far apart, each kind of span at each position.
func large() []api.Filter {
	all := []api.Filter{nil}
	many := spans(lowest, lowest+1, -9, -5, 0, 3, 9, highest-1, highest)
	for n := 1; n <= 6; n++ {
		for i, s := range many {
			f := api.Filter{}
			for j := range n {
				f = append(f, many[(i+7*j)%len(many)])
			}
			wide := slices.Repeat(api.Filter{sp(lowest, highest)}, n)
			wide[i%n] = s
			all = append(all, f, wide, slices.Repeat(api.Filter{s}, n))
		}
	}
	return all
}

// points are all lists of none to three values from -2 to 3.
func points() [][]int32 {
	all := [][]int32{nil, {}}
	for a := int32(-2); a <= 3; a++ {
		all = append(all, []int32{a})
		for b := int32(-2); b <= 3; b++ {
			all = append(all, []int32{a, b}, []int32{a, b, a})
		}
	}
	return all
}

// corners are values at, and beside, the ends of the first spans of f, and others.
func corners(f api.Filter) [][]int32 {
	all := [][]int32{}
	for i := range 9 {
		vals := []int32{}
		for j, s := range f {
			vals = append(vals, []int32{s.From, s.To, s.From - 1, s.To + 1, lowest, highest, 0, s.From/2 + s.To/2, s.From + 1}[i*(j+1)%9])
		}
		all = append(all, vals)
	}
	for i := range f {
		for _, v := range []int32{f[i].From - 1, f[i].From, f[i].To, f[i].To + 1} {
			vals := []int32{}
			for _, s := range f {
				vals = append(vals, s.From)
			}
			vals[i] = v
			all = append(all, vals)
		}
	}
	return all
}

func contains(s api.Span, v int32) bool { return s.From <= v && v <= s.To }

func isEmpty(s api.Span) bool { return s.From > s.To }

// matches is the chapter's term, by itself.
func matches(f api.Filter, vals []int32) bool {
	match := len(f) > 0 && len(f) == len(vals)
	for i := 0; match && i < len(f); i++ {
		match = contains(f[i], vals[i])
	}
	return match
}

// right is the chapter's term, by itself.
func right(s api.Schema, f api.Filter) bool {
	if len(f) == 0 {
		return true
	}
	good := len(f) == len(s)
	for i := 0; good && i < len(f); i++ {
		good = f[i].From <= f[i].To && f[i].From >= s[i].From && f[i].To <= s[i].To
	}
	return good
}

// intersection is the chapter's term, by itself: of filters with equally many spans, or of others.
func intersection(a, b []api.Span) api.Filter {
	if len(a) != len(b) {
		return nil
	}
	f := api.Filter{}
	for i := range a {
		s := a[i]
		if b[i].From > s.From {
			s.From = b[i].From
		}
		if b[i].To < s.To {
			s.To = b[i].To
		}
		if s.From > s.To {
			return nil
		}
		f = append(f, s)
	}
	return f
}

// covered is the chapter's term, by itself: a covers b.
func covered(a, b api.Filter) bool {
	if len(b) == 0 {
		return true
	}
	all := len(a) == len(b)
	for i := 0; all && i < len(b); i++ {
		all = isEmpty(b[i]) || a[i].From <= b[i].From && b[i].To <= a[i].To
	}
	return all
}

// full returns list as a slice with spare capacity, and all its memory.
func full[T any](list []T, spare T) (part, whole []T) {
	whole = append(append([]T{}, list...), spare, spare, spare, spare, spare, spare)
	return whole[:len(list)], whole
}

// fill writes into all the memory of list, spare capacity too.
func fill[T any](list []T, x T) {
	for i := range list[:cap(list)] {
		list[:cap(list)][i] = x
	}
}

// P5.1

func TestRight(t *testing.T) {
	for i, x := range []struct {
		f    api.Filter
		want bool
	}{
		{nil, true}, {api.Filter{}, true},
		{api.Filter{sp(3, 9), sp(-5, 0)}, true}, {api.Filter{sp(0, 9), sp(-5, 5)}, true}, {api.Filter{sp(0, 0), sp(5, 5)}, true}, {api.Filter{sp(9, 9), sp(-5, -5)}, true},
		{api.Filter{sp(3, 10), sp(-5, 0)}, false}, {api.Filter{sp(-1, 9), sp(-5, 0)}, false}, {api.Filter{sp(3, 9), sp(-6, 0)}, false}, {api.Filter{sp(3, 9), sp(-5, 6)}, false},
		{api.Filter{sp(10, 20), sp(0, 0)}, false}, {api.Filter{sp(lowest, highest), sp(0, 0)}, false}, {api.Filter{sp(0, 0), sp(lowest, highest)}, false},
		{api.Filter{sp(4, 3), sp(0, 0)}, false}, {api.Filter{sp(3, 4), sp(1, 0)}, false}, {api.Filter{sp(highest, lowest), sp(0, 0)}, false}, {api.Filter{sp(20, 10), sp(0, 0)}, false},
		{api.Filter{sp(1, 2)}, false}, {api.Filter{sp(1, 2), sp(0, 0), sp(0, 0)}, false}, {api.Filter{sp(1, 2), sp(0, 0), sp(1, 2), sp(0, 0)}, false},
		{api.Filter{sp(2, 1)}, false}, {api.Filter{sp(1, 2), sp(0, 0), sp(1, 0)}, false},
	} {
		if got := Right(two, x.f); got != x.want {
			t.Error(i, x.f, got)
		}
	}
}

func TestRightOfMany(t *testing.T) {
	for _, s := range schemas {
		for _, f := range append(append(small(), large()...), api.Filter(s), api.Filter(s[:len(s)-1])) {
			if got := Right(s, f); got != right(s, f) {
				t.Error(s, f, got)
			}
		}
		if part, _ := full(api.Filter(s[:len(s)-1]), s[len(s)-1]); len(part) > 0 && Right(s, part) {
			t.Error("spare capacity counts", s)
		}
	}
}

func TestNormal(t *testing.T) {
	for i, x := range []struct {
		f, want api.Filter
		err     api.Errno
	}{
		{api.Filter{sp(3, 20), sp(-9, 0)}, api.Filter{sp(3, 9), sp(-5, 0)}, api.OK},
		{api.Filter{sp(10, 20), sp(0, 0)}, nil, api.OK},
		{api.Filter{sp(1, 2)}, nil, api.ErrFilter},
		{nil, nil, api.OK}, {api.Filter{}, nil, api.OK},
		{api.Filter{sp(3, 9), sp(-5, 0)}, api.Filter{sp(3, 9), sp(-5, 0)}, api.OK},
		{api.Filter{sp(0, 0), sp(0, 0)}, api.Filter{sp(0, 0), sp(0, 0)}, api.OK},
		{api.Filter{sp(lowest, highest), sp(lowest, highest)}, api.Filter(two), api.OK},
		{api.Filter{sp(9, 20), sp(5, 6)}, api.Filter{sp(9, 9), sp(5, 5)}, api.OK},
		{api.Filter{sp(-1, 0), sp(-6, -5)}, api.Filter{sp(0, 0), sp(-5, -5)}, api.OK},
		{api.Filter{sp(3, 4), sp(6, 7)}, nil, api.OK}, {api.Filter{sp(-2, -1), sp(0, 0)}, nil, api.OK},
		{api.Filter{sp(4, 3), sp(0, 0)}, nil, api.OK}, {api.Filter{sp(3, 4), sp(1, 0)}, nil, api.OK}, {api.Filter{sp(highest, lowest), sp(highest, lowest)}, nil, api.OK},
		{api.Filter{sp(2, 1)}, nil, api.ErrFilter}, {api.Filter{sp(10, 20)}, nil, api.ErrFilter}, {api.Filter{{}}, nil, api.ErrFilter},
		{api.Filter{sp(1, 2), sp(0, 0), sp(0, 0)}, nil, api.ErrFilter}, {api.Filter{sp(1, 2), sp(0, 0), sp(1, 0)}, nil, api.ErrFilter},
	} {
		if got, err := Normal(two, x.f); !slices.Equal(got, x.want) || err != x.err {
			t.Error(i, x.f, got, err)
		}
	}
}

func TestNormalOfMany(t *testing.T) {
	for _, s := range schemas {
		for _, f := range append(append(small(), large()...), api.Filter(s)) {
			got, err := Normal(s, f)
			want, wrong := intersection(s, f), api.OK
			if len(f) > 0 && len(f) != len(s) {
				wrong = api.ErrFilter
			}
			if !slices.Equal(got, want) || err != wrong {
				t.Error(s, f, got, err)
			}
		}
	}
}

func TestNormalOfCounts(t *testing.T) {
	for _, s := range schemas {
		for _, n := range []int{0, 1, 2, 3, 4, 5, 6, 255, 256, 257, 258, 259, 260, 65537} {
			f := slices.Repeat(api.Filter{sp(lowest, highest)}, n)
			got, err := Normal(s, f)
			switch {
			case n == 0 && (len(got) != 0 || err != api.OK):
				t.Error("no spans", s, got, err)
			case n == len(s) && (!slices.Equal(got, api.Filter(s)) || err != api.OK):
				t.Error("as many", s, got, err)
			case n != 0 && n != len(s) && (got != nil || err != api.ErrFilter):
				t.Error("others", s, n, got, err)
			}
		}
	}
	part, _ := full(api.Filter{sp(1, 2)}, sp(0, 0))
	if got, err := Normal(two, part); got != nil || err != api.ErrFilter {
		t.Error("spare capacity counts", got, err)
	}
}

// P5.2

func TestMatch(t *testing.T) {
	f := api.Filter{sp(3, 9), sp(-5, 0)}
	for i, x := range []struct {
		f    api.Filter
		vals []int32
		want bool
	}{
		{f, []int32{4, 0}, true}, {f, []int32{3, -5}, true}, {f, []int32{9, 0}, true}, {f, []int32{3, 0}, true}, {f, []int32{9, -5}, true},
		{f, []int32{4, 1}, false}, {f, []int32{4, -6}, false}, {f, []int32{2, 0}, false}, {f, []int32{10, 0}, false}, {f, []int32{0, 4}, false},
		{f, []int32{4}, false}, {f, nil, false}, {f, []int32{}, false}, {f, []int32{4, 0, 0}, false}, {f, []int32{4, 0, 4, 0}, false},
		{nil, nil, false}, {nil, []int32{}, false}, {api.Filter{}, []int32{}, false}, {nil, []int32{0}, false}, {api.Filter{}, []int32{1, 2}, false},
		{api.Filter{{}}, []int32{0}, true}, {api.Filter{{}}, []int32{1}, false}, {api.Filter{{}}, nil, false},
		{api.Filter{sp(5, 3)}, []int32{4}, false}, {api.Filter{sp(5, 3)}, []int32{5}, false}, {api.Filter{sp(5, 3)}, []int32{3}, false},
		{api.Filter{sp(3, 5), sp(1, 0)}, []int32{4, 0}, false}, {api.Filter{sp(1, 0), sp(3, 5)}, []int32{0, 4}, false},
		{api.Filter{sp(lowest, highest)}, []int32{lowest}, true}, {api.Filter{sp(lowest, highest)}, []int32{highest}, true}, {api.Filter{sp(highest, lowest)}, []int32{0}, false},
		{api.Filter{sp(1, 1), sp(2, 2), sp(3, 3), sp(4, 4), sp(5, 5)}, []int32{1, 2, 3, 4, 5}, true}, {api.Filter{sp(1, 1), sp(2, 2), sp(3, 3), sp(4, 4), sp(5, 5)}, []int32{1, 2, 3, 4, 6}, false},
	} {
		if got := Match(x.f, x.vals); got != x.want {
			t.Error(i, x, got)
		}
	}
}

func TestMatchOfMany(t *testing.T) {
	for _, f := range small() {
		for _, vals := range points() {
			if got := Match(f, vals); got != matches(f, vals) {
				t.Error(f, vals, got)
			}
		}
	}
	for _, f := range large() {
		for _, vals := range corners(f) {
			if got := Match(f, vals); got != matches(f, vals) {
				t.Error(f, vals, got)
			}
			if Match(f, append(vals, 0)) || len(vals) > 0 && Match(f, vals[:len(vals)-1]) {
				t.Error("one more, or one less", f, vals)
			}
		}
	}
}

func TestSame(t *testing.T) {
	all := small()[1:] // without one of the two that have no spans
	for i, a := range all {
		for j, b := range all {
			if got := Same(a, b); got != (i == j) {
				t.Error(a, b, got)
			}
		}
	}
	if !Same(nil, api.Filter{}) || !Same(api.Filter{}, nil) || !Same(nil, nil) {
		t.Error("no spans")
	}
	for _, a := range large() {
		if !Same(a, slices.Clone(a)) || Same(a, append(slices.Clone(a), sp(0, 0))) {
			t.Error(a)
		}
		for i := range a {
			b, c := slices.Clone(a), slices.Clone(a)
			b[i].From++
			c[i].To--
			if Same(a, b) || Same(b, a) || Same(a, c) || Same(b, c) || Same(a, a[:i]) || Same(a[:i], a) {
				t.Error(a, i)
			}
		}
	}
}

func TestSameOfSpareCapacity(t *testing.T) {
	a, _ := full(api.Filter{sp(1, 2)}, sp(3, 4))
	b, _ := full(api.Filter{sp(1, 2)}, sp(5, 6))
	if !Same(a, b) || Same(a, api.Filter{sp(1, 2), sp(3, 4)}) {
		t.Error("spare capacity counts")
	}
}

func TestCopy(t *testing.T) {
	for _, f := range append(append(small(), large()...), make(api.Filter, 1000)) {
		if got := Copy(f); !slices.Equal(got, f) {
			t.Error(f, got)
		}
	}
}

func TestCopyIsItsOwn(t *testing.T) {
	f, _ := full(api.Filter{sp(3, 9), sp(-5, 0)}, sp(1, 2))
	first, second := Copy(f), Copy(f)
	fill(f, sp(7, 7))
	if !slices.Equal(first, api.Filter{sp(3, 9), sp(-5, 0)}) {
		t.Error("the original is changed", first)
	}
	fill(first, sp(8, 8))
	if !slices.Equal(second, api.Filter{sp(3, 9), sp(-5, 0)}) || f[0] != sp(7, 7) || f[1] != sp(7, 7) {
		t.Error("a copy is changed", second, f)
	}
}

// P5.3

func TestMeet(t *testing.T) {
	for i, x := range []struct{ a, b, want api.Filter }{
		{api.Filter{sp(3, 9), sp(-5, 0)}, api.Filter{sp(0, 3), sp(0, 9)}, api.Filter{sp(3, 3), sp(0, 0)}},
		{api.Filter{sp(3, 9), sp(-5, 0)}, api.Filter{sp(0, 2), sp(0, 9)}, nil},
		{api.Filter{sp(3, 9), sp(-5, 0)}, api.Filter{sp(0, 3), sp(1, 9)}, nil},
		{api.Filter{sp(3, 9)}, api.Filter{sp(3, 9), sp(-5, 0)}, nil},
		{api.Filter{sp(3, 9), sp(-5, 0)}, nil, nil}, {nil, nil, nil}, {api.Filter{}, nil, nil},
		{api.Filter{sp(9, 3)}, api.Filter{sp(0, 10)}, nil}, {api.Filter{sp(9, 3)}, api.Filter{sp(9, 3)}, nil},
		{api.Filter{sp(1, 5), sp(2, 1)}, api.Filter{sp(1, 5), sp(0, 9)}, nil}, {api.Filter{sp(2, 1), sp(1, 5)}, api.Filter{sp(0, 9), sp(1, 5)}, nil},
		{api.Filter{{}}, api.Filter{{}}, api.Filter{{}}}, {api.Filter{{}, sp(1, 1)}, api.Filter{{}, sp(2, 2)}, nil},
		{api.Filter{sp(lowest, 0), sp(0, highest)}, api.Filter{sp(0, highest), sp(lowest, 0)}, api.Filter{sp(0, 0), sp(0, 0)}},
		{api.Filter{sp(lowest, highest), sp(lowest, lowest)}, api.Filter{sp(highest, highest), sp(lowest, highest)}, api.Filter{sp(highest, highest), sp(lowest, lowest)}},
	} {
		if got := Meet(x.a, x.b); !slices.Equal(got, x.want) {
			t.Error(i, x, got)
		}
		if got := Meet(x.b, x.a); !slices.Equal(got, x.want) {
			t.Error("turned", i, x, got)
		}
	}
}

func TestCovers(t *testing.T) {
	for i, x := range []struct {
		a, b api.Filter
		want bool
	}{
		{api.Filter{sp(0, 9), sp(-5, 5)}, api.Filter{sp(3, 9), sp(-5, 0)}, true},
		{api.Filter{sp(3, 9), sp(-5, 0)}, api.Filter{sp(0, 9), sp(-5, 5)}, false},
		{api.Filter{sp(0, 9), sp(-5, 5)}, api.Filter{sp(3, 9), sp(-5, 6)}, false}, {api.Filter{sp(0, 9), sp(-5, 5)}, api.Filter{sp(-1, 9), sp(-5, 5)}, false},
		{api.Filter{sp(0, 9), sp(-5, 5)}, api.Filter{sp(0, 9), sp(-5, 5)}, true},
		{api.Filter{sp(0, 9)}, nil, true}, {nil, nil, true}, {nil, api.Filter{}, true}, {api.Filter{sp(1, 0)}, api.Filter{}, true},
		{nil, api.Filter{sp(0, 0)}, false}, {nil, api.Filter{sp(1, 0)}, false}, {api.Filter{}, api.Filter{sp(1, 0), sp(1, 0)}, false},
		{api.Filter{sp(0, 9)}, api.Filter{sp(0, 9), sp(0, 9)}, false}, {api.Filter{sp(0, 9), sp(0, 9)}, api.Filter{sp(0, 9)}, false}, {api.Filter{sp(0, 9), sp(0, 9)}, api.Filter{sp(1, 0)}, false},
		{api.Filter{sp(5, 5)}, api.Filter{sp(7, 6)}, true}, {api.Filter{sp(9, 5)}, api.Filter{sp(7, 6)}, true}, {api.Filter{sp(7, 6)}, api.Filter{sp(5, 5)}, false},
		{api.Filter{sp(5, 5), sp(0, 9)}, api.Filter{sp(7, 6), sp(0, 9)}, true}, {api.Filter{sp(5, 5), sp(0, 9)}, api.Filter{sp(7, 6), sp(0, 10)}, false}, {api.Filter{sp(0, 9), sp(5, 5)}, api.Filter{sp(0, 10), sp(7, 6)}, false},
		{api.Filter{sp(lowest, highest)}, api.Filter{sp(lowest, highest)}, true}, {api.Filter{sp(lowest+1, highest)}, api.Filter{sp(lowest, highest)}, false}, {api.Filter{sp(lowest, highest-1)}, api.Filter{sp(lowest, highest)}, false},
	} {
		if got := Covers(x.a, x.b); got != x.want {
			t.Error(i, x, got)
		}
	}
}

func TestMeetAndCoversOfMany(t *testing.T) {
	for _, list := range [][]api.Filter{small(), large()} {
		for _, a := range list {
			for _, b := range list {
				if got := Meet(a, b); !slices.Equal(got, intersection(a, b)) {
					t.Fatal("meet", a, b, got)
				}
				if got := Covers(a, b); got != covered(a, b) {
					t.Fatal("covers", a, b, got)
				}
			}
		}
	}
}

func TestMeetOfSpareCapacity(t *testing.T) {
	a, _ := full(api.Filter{sp(1, 2)}, sp(3, 4))
	b := api.Filter{sp(1, 2), sp(3, 4)}
	if len(Meet(a, b)) != 0 || len(Meet(b, a)) != 0 || Covers(a, b) || Covers(b, a) {
		t.Error("spare capacity counts")
	}
}

// P5.4

func TestNormalFormIsRight(t *testing.T) {
	for _, s := range schemas {
		for _, f := range append(small(), large()...) {
			n, err := Normal(s, f)
			if !Right(s, n) {
				t.Error("not right", s, f, n)
			}
			if again, worse := Normal(s, n); !Same(again, n) || worse != api.OK {
				t.Error("not its own normal form", s, f, n, again)
			}
			if Right(s, f) != (err == api.OK && Same(f, n)) {
				t.Error("right, but not its own normal form", s, f, n)
			}
			if err != api.OK {
				continue
			}
			for _, vals := range append(append(corners(f), corners(n)...), corners(api.Filter(s))...) {
				if matches(api.Filter(s), vals) && Match(n, vals) != Match(f, vals) {
					t.Error("matches others", s, f, n, vals)
				}
			}
		}
	}
}

func TestMeetMatchesWhatBothMatch(t *testing.T) {
	few := small()
	values := points()
	for i, a := range few {
		for _, b := range few[i%5:] {
			m, covers := Meet(a, b), Covers(a, b)
			for _, vals := range values {
				if Match(m, vals) != (Match(a, vals) && Match(b, vals)) {
					t.Fatal("meet", a, b, m, vals)
				}
				if covers && Match(b, vals) && !Match(a, vals) {
					t.Fatal("covers", a, b, vals)
				}
			}
		}
	}
}

// Other schemas: nothing is specified but that every call ends.

func TestOtherSchemas(t *testing.T) {
	for _, s := range []api.Schema{nil, {}, make(api.Schema, 5), make(api.Schema, 100), {sp(1, 0)}, {sp(highest, lowest), {}}} {
		for _, f := range append(small(), large()...) {
			Right(s, f)
			Normal(s, f)
		}
	}
}

// R3: arguments stay as they are, with their spare capacity, and results are memory of their own.

func TestArgumentsStay(t *testing.T) {
	for _, f := range []api.Filter{nil, {sp(1, 2)}, {sp(3, 20), sp(-9, 0)}, {sp(3, 9), sp(-5, 0)}, {sp(4, 3), sp(1, 0)}, {{}, {}, {}}} {
		for _, g := range []api.Filter{nil, {sp(2, 3)}, {sp(0, 3), sp(0, 9)}, {sp(3, 9), sp(-5, 0)}, {{}, {}, {}}} {
			s, allRanges := full(two, sp(1, 2))
			a, allA := full(f, sp(3, 4))
			b, allB := full(g, sp(5, 6))
			vals, allVals := full([]int32{4, 0}, 42)
			keptRanges, keptA, keptB, keptVals := slices.Clone(allRanges), slices.Clone(allA), slices.Clone(allB), slices.Clone(allVals)
			Right(s, a)
			normal, _ := Normal(s, a)
			fill(normal, sp(99, 99))
			Match(a, vals)
			fill(Meet(a, b), sp(99, 99))
			fill(Meet(a, a), sp(99, 99))
			Covers(a, b)
			Same(a, b)
			fill(Copy(a), sp(99, 99))
			if !slices.Equal(allRanges, keptRanges) || !slices.Equal(allA, keptA) || !slices.Equal(allB, keptB) || !slices.Equal(allVals, keptVals) {
				t.Error(f, g, allRanges, allA, allB, allVals)
			}
		}
	}
}

func TestResultsOutliveArguments(t *testing.T) {
	s, f := slices.Clone(two), api.Filter{sp(3, 9), sp(-5, 0)}
	normal, _ := Normal(s, f)
	both, more := Meet(f, f), Meet(f, api.Filter(s))
	fill(s, sp(99, 99))
	fill(f, sp(99, 99))
	for i, got := range []api.Filter{normal, both, more} {
		if !slices.Equal(got, api.Filter{sp(3, 9), sp(-5, 0)}) {
			t.Error(i, got)
		}
	}
}
