package score

import (
	"math"
	"math/big"
	"slices"
	"testing"

	"grapevine/api"
	"grapevine/filter"
)

const (
	lowest  = math.MinInt32
	highest = math.MaxInt32
	most    = math.MaxUint32
)

// two is the schema of the chapter's examples.
var two = api.Schema{{From: 0, To: 9}, {From: -5, To: 5}}

func sp(from, to int32) api.Span { return api.Span{From: from, To: to} }

// long is a span of n numbers, from the lowest one on.
func long(n int64) api.Span { return sp(lowest, int32(lowest+n-1)) }

// longs is a filter of spans as long as that.
func longs(lengths ...int64) api.Filter {
	f := api.Filter{}
	for _, n := range lengths {
		f = append(f, long(n))
	}
	return f
}

// spans are all with ends out of a few, the empty ones too.
func spans(ends ...int32) []api.Span {
	all := []api.Span{}
	for _, from := range ends {
		for _, to := range ends {
			all = append(all, sp(from, to))
		}
	}
	return all
}

// small are all filters of none, one or two spans with ends from -1 to 2.
func small() []api.Filter {
	all := []api.Filter{nil, {}}
	few := spans(-1, 0, 1, 2)
	for _, a := range few {
		all = append(all, api.Filter{a})
		for _, b := range few {
			all = append(all, api.Filter{a, b})
		}
	}
	return all
}

// large are filters of one to six spans with ends near and far apart.
func large() []api.Filter {
	all := []api.Filter{nil}
	many := spans(lowest, lowest+1, -70000, -9, -5, 0, 3, 9, 65535, highest-1, highest)
	for n := 1; n <= 6; n++ {
		for i, s := range many {
			f := api.Filter{}
			for j := range n {
				f = append(f, many[(i+7*j)%len(many)])
			}
			wide := slices.Repeat(api.Filter{sp(lowest, highest)}, n)
			wide[i%n] = s
			all = append(all, f, wide, slices.Repeat(api.Filter{s}, n))
		}
	}
	return all
}

// overlap is the chapter's term, by itself, in numbers without a bound.
func overlap(a, b api.Filter) uint32 {
	if len(a) == 0 || len(a) != len(b) {
		return 0
	}
	product := big.NewInt(1)
	for i := range a {
		from, to := a[i].From, a[i].To
		if b[i].From > from {
			from = b[i].From
		}
		if b[i].To < to {
			to = b[i].To
		}
		if from > to {
			return 0
		}
		product.Mul(product, big.NewInt(int64(to)-int64(from)+1))
	}
	if product.Cmp(big.NewInt(most)) > 0 {
		return most
	}
	return uint32(product.Uint64())
}

// shared is how many lists of values from -2 to 3 both filters match.
func shared(a, b api.Filter) uint32 {
	n := uint32(0)
	count := func(vals ...int32) {
		if filter.Match(a, vals) && filter.Match(b, vals) {
			n++
		}
	}
	for x := int32(-2); x <= 3; x++ {
		count(x)
		for y := int32(-2); y <= 3; y++ {
			count(x, y)
		}
	}
	return n
}

// floor is x divided by y, rounded down: below 0, too.
func floor(x, y int64) int64 {
	return new(big.Int).Div(big.NewInt(x), big.NewInt(y)).Int64() // y is above 0 here
}

// key is the chapter's term, by itself.
func key(s api.Schema, f api.Filter) uint8 {
	k := int64(0)
	for i := range f {
		m := floor(int64(f[i].From)+int64(f[i].To), 2)
		k = 4*k + floor(4*(m-int64(s[i].From)), int64(s[i].To)-int64(s[i].From)+1)
	}
	return uint8(k)
}

// ranges are right ones, short and long.
func ranges() []api.Span {
	all := []api.Span{sp(lowest, highest), sp(lowest, lowest), sp(highest, highest), sp(lowest, 0), sp(0, highest), sp(lowest, -1), sp(lowest+1, highest), sp(lowest, highest-1), sp(-1000, 2000), sp(-1<<30, 1<<30)}
	for from := int32(-9); from <= 3; from++ {
		for to := from; to <= 9; to++ {
			all = append(all, sp(from, to))
		}
	}
	return all
}

// inside are spans within r: all of them if it is short, otherwise those with ends about each eighth of it.
func inside(r api.Span) []api.Span {
	length := int64(r.To) - int64(r.From) + 1
	ends := []int32{}
	for i := int64(0); i <= 8; i++ {
		for d := int64(-3); d <= 3; d++ {
			if at := int64(r.From) + i*length/8 + d; at >= int64(r.From) && at <= int64(r.To) {
				ends = append(ends, int32(at))
			}
		}
	}
	slices.Sort(ends)
	ends = slices.Compact(ends)
	all := []api.Span{}
	for _, s := range spans(ends...) {
		if s.From <= s.To {
			all = append(all, s)
		}
	}
	return all
}

// full returns list as a slice with spare capacity, and all its memory.
func full[T any](list []T, spare T) (part, whole []T) {
	whole = append(append([]T{}, list...), spare, spare, spare, spare, spare, spare)
	return whole[:len(list)], whole
}

// P6.1

func TestOverlap(t *testing.T) {
	for i, x := range []struct {
		a, b api.Filter
		want uint32
	}{
		{api.Filter{sp(0, 9), sp(0, 4)}, api.Filter{sp(5, 20), sp(0, 0)}, 5},
		{nil, nil, 0}, {api.Filter{}, api.Filter{}, 0}, {api.Filter{sp(0, 9)}, nil, 0}, {api.Filter{sp(0, 9), sp(0, 4)}, api.Filter{}, 0},
		{api.Filter{{}}, api.Filter{{}}, 1}, {api.Filter{sp(0, 9)}, api.Filter{sp(0, 9)}, 10}, {api.Filter{sp(-3, 9)}, api.Filter{sp(-5, -1)}, 3}, {api.Filter{sp(0, 4)}, api.Filter{sp(4, 9)}, 1},
		{api.Filter{sp(0, 9)}, api.Filter{sp(10, 20)}, 0}, {api.Filter{sp(0, 9), sp(0, 4)}, api.Filter{sp(0, 9), sp(5, 6)}, 0}, {api.Filter{sp(0, 9), sp(0, 4)}, api.Filter{sp(10, 20), sp(0, 4)}, 0},
		{api.Filter{sp(0, 9)}, api.Filter{sp(0, 9), sp(0, 4)}, 0}, {api.Filter{sp(0, 9), sp(0, 4), sp(1, 2)}, api.Filter{sp(0, 9), sp(0, 4)}, 0},
		{api.Filter{sp(9, 0)}, api.Filter{sp(0, 9)}, 0}, {api.Filter{sp(9, 0)}, api.Filter{sp(9, 0)}, 0}, {api.Filter{sp(0, 9), sp(2, 1)}, api.Filter{sp(0, 9), sp(0, 4)}, 0}, {api.Filter{sp(highest, lowest)}, api.Filter{sp(lowest, highest)}, 0},
		{api.Filter{sp(0, 1), sp(0, 2), sp(0, 4), sp(0, 6)}, api.Filter{sp(0, 9), sp(0, 9), sp(0, 9), sp(0, 9)}, 210},
		{api.Filter{sp(0, 1), sp(0, 2), sp(0, 4), sp(0, 6), sp(0, 10), sp(0, 12)}, api.Filter{sp(0, 99), sp(0, 99), sp(0, 99), sp(0, 99), sp(0, 99), sp(0, 99)}, 30030},
	} {
		if got := Overlap(x.a, x.b); got != x.want {
			t.Error(i, x, got)
		}
		if got := Overlap(x.b, x.a); got != x.want {
			t.Error("turned", i, x, got)
		}
	}
}

func TestOverlapIsBounded(t *testing.T) {
	whole := int64(1) << 32
	for i, x := range []struct {
		lengths []int64
		want    uint32
	}{
		{[]int64{whole}, most}, {[]int64{whole - 1}, most}, {[]int64{whole - 2}, most - 1},
		{[]int64{whole, 1}, most}, {[]int64{1, whole}, most}, {[]int64{whole - 1, 1, 1, 1}, most}, {[]int64{1, 1, 1, whole - 2}, most - 1},
		{[]int64{65535, 65537}, most}, {[]int64{65537, 65535}, most}, {[]int64{65536, 65536}, most}, {[]int64{65536, 65535}, 65536 * 65535}, {[]int64{65537, 65536}, most},
		{[]int64{3, 5, 17, 257, 65537}, most}, {[]int64{2, 1<<31 - 1}, most - 1}, {[]int64{2, 1 << 31}, most}, {[]int64{1 << 31, 2, 1}, most},
		{[]int64{1 << 31, 1 << 31}, most}, {[]int64{whole, whole}, most}, {[]int64{whole - 1, whole - 1}, most}, {[]int64{whole, whole, 1}, most}, {[]int64{whole, whole, whole, whole}, most},
		{[]int64{65536, 65536, 65536, 65536}, most}, {[]int64{65536, 65536, 65536, 65536, 1}, most}, {[]int64{1 << 31, 1 << 31, 4}, most}, {[]int64{1 << 31, 1 << 31, 4, 3}, most}, {[]int64{4, 1 << 31, 1 << 31}, most},
		{[]int64{1 << 22, 1 << 21, 1 << 21, 5}, most}, {[]int64{1 << 16, 1 << 16, 1, 1 << 31, 2, 7}, most},
	} {
		f := longs(x.lengths...)
		if got := Overlap(f, f); got != x.want {
			t.Error(i, x.lengths, got)
		}
	}
}

func TestOverlapOfManySpans(t *testing.T) {
	for _, n := range []int{1, 4, 5, 15, 31, 32, 33, 63, 64, 65, 128, 255, 256, 257, 100000} {
		for _, length := range []int64{1, 2, 3, 16, 65535, 65536, 1 << 31, 1<<32 - 1, 1 << 32} {
			f := slices.Repeat(longs(length), n)
			if got := Overlap(f, f); got != overlap(f[:min(n, 300)], f[:min(n, 300)]) {
				t.Error(n, length, got)
			}
		}
		ones := slices.Repeat(api.Filter{{}}, n)
		ones[n-1] = sp(0, 6)
		if got := Overlap(ones, ones); got != 7 {
			t.Error(n, got)
		}
		apart := slices.Repeat(api.Filter{sp(lowest, highest)}, n)
		apart[n-1] = sp(1, 0)
		if got := Overlap(apart, slices.Repeat(api.Filter{sp(lowest, highest)}, n)); got != 0 {
			t.Error("nothing at the last", n, got)
		}
	}
}

func TestOverlapOfMany(t *testing.T) {
	for _, list := range [][]api.Filter{small(), large()} {
		for _, a := range list {
			for _, b := range list {
				if got := Overlap(a, b); got != overlap(a, b) {
					t.Fatal(a, b, got)
				}
			}
		}
	}
}

func TestOverlapCountsWhatBothMatch(t *testing.T) {
	for _, a := range small() {
		for _, b := range small() {
			if got := Overlap(a, b); got != shared(a, b) {
				t.Fatal(a, b, got)
			}
		}
	}
}

func TestOverlapOfSpareCapacity(t *testing.T) {
	a, _ := full(api.Filter{sp(1, 2)}, sp(3, 6))
	if got := Overlap(a, a); got != 2 {
		t.Error("spare capacity counts", got)
	}
	if got := Overlap(a, api.Filter{sp(1, 2), sp(3, 6)}); got != 0 {
		t.Error("spare capacity counts", got)
	}
}

// P6.2

func TestKey(t *testing.T) {
	four := api.Schema{sp(0, 3), sp(0, 7), sp(-2, 1), sp(lowest, highest)}
	for i, x := range []struct {
		s    api.Schema
		f    api.Filter
		want uint8
	}{
		{two, api.Filter{sp(3, 9), sp(-5, 0)}, 8},
		{two, nil, 0}, {two, api.Filter{}, 0}, {four, nil, 0}, {api.Schema{sp(3, 3)}, nil, 0},
		{two, api.Filter{sp(0, 9), sp(-5, 5)}, 5}, {two, api.Filter{sp(9, 9), sp(5, 5)}, 15}, {two, api.Filter{sp(0, 0), sp(-5, -5)}, 0}, {two, api.Filter{sp(0, 0), sp(5, 5)}, 3}, {two, api.Filter{sp(9, 9), sp(-5, -5)}, 12},
		{two, api.Filter{sp(0, 4), sp(-5, -5)}, 0}, {two, api.Filter{sp(3, 3), sp(-5, -5)}, 4}, {two, api.Filter{sp(4, 4), sp(-5, -5)}, 4}, {two, api.Filter{sp(5, 5), sp(-5, -5)}, 8}, {two, api.Filter{sp(7, 7), sp(-5, -5)}, 8}, {two, api.Filter{sp(8, 8), sp(-5, -5)}, 12},
		{two, api.Filter{sp(0, 0), sp(-3, -3)}, 0}, {two, api.Filter{sp(0, 0), sp(-2, -2)}, 1}, {two, api.Filter{sp(0, 0), sp(0, 0)}, 1}, {two, api.Filter{sp(0, 0), sp(1, 1)}, 2}, {two, api.Filter{sp(0, 0), sp(3, 3)}, 2}, {two, api.Filter{sp(0, 0), sp(4, 4)}, 3},
		{api.Schema{sp(3, 3)}, api.Filter{sp(3, 3)}, 0}, {api.Schema{sp(lowest, lowest)}, api.Filter{sp(lowest, lowest)}, 0}, {api.Schema{sp(highest, highest)}, api.Filter{sp(highest, highest)}, 0},
		{api.Schema{sp(0, 1)}, api.Filter{sp(0, 0)}, 0}, {api.Schema{sp(0, 1)}, api.Filter{sp(0, 1)}, 0}, {api.Schema{sp(0, 1)}, api.Filter{sp(1, 1)}, 2},
		{api.Schema{sp(0, 2)}, api.Filter{sp(0, 0)}, 0}, {api.Schema{sp(0, 2)}, api.Filter{sp(1, 2)}, 1}, {api.Schema{sp(0, 2)}, api.Filter{sp(2, 2)}, 2},
		{four, api.Filter{sp(0, 0), sp(0, 1), sp(-2, -2), sp(lowest, lowest)}, 0}, {four, api.Filter{sp(3, 3), sp(6, 7), sp(1, 1), sp(highest, highest)}, 255},
		{four, api.Filter{sp(1, 1), sp(4, 4), sp(1, 1), sp(lowest, highest)}, 64 + 32 + 12 + 1}, {four, api.Filter{sp(2, 2), sp(2, 2), sp(-1, -1), sp(0, 0)}, 128 + 16 + 4 + 2},
	} {
		if got := Key(x.s, x.f); got != x.want {
			t.Error(i, x, got)
		}
	}
}

func TestKeyRoundsTheMiddleDown(t *testing.T) {
	for i, x := range []struct {
		r, f api.Span
		want uint8
	}{
		{sp(-1, 0), sp(-1, 0), 0}, {sp(-2, -1), sp(-2, -1), 0}, {sp(-4, -1), sp(-4, -1), 1}, {sp(-4, -1), sp(-3, -2), 1}, {sp(-4, -1), sp(-2, -1), 2},
		{sp(-2, 1), sp(-2, 1), 1}, {sp(-2, 1), sp(-2, -1), 0}, {sp(-2, 1), sp(-1, 0), 1}, {sp(-2, 1), sp(0, 1), 2},
		{sp(0, 3), sp(0, 3), 1}, {sp(0, 3), sp(2, 3), 2}, {sp(0, 3), sp(1, 2), 1},
		{sp(lowest, highest), sp(lowest, highest), 1}, {sp(lowest, highest), sp(lowest+1, highest), 2}, {sp(lowest, highest), sp(-1, 0), 1}, {sp(lowest, highest), sp(0, 0), 2}, {sp(lowest, highest), sp(-1, 2), 2},
		{sp(lowest, highest), sp(lowest, lowest+1), 0}, {sp(lowest, highest), sp(highest-1, highest), 3}, {sp(lowest, highest), sp(highest, highest), 3}, {sp(lowest, highest), sp(0, highest), 2}, {sp(lowest, highest), sp(lowest, -1), 0}, {sp(lowest, highest), sp(lowest, 0), 1},
		{sp(lowest, highest), sp(-1<<30-1, -1<<30), 0}, {sp(lowest, highest), sp(-1<<30, -1<<30), 1}, {sp(lowest, highest), sp(1<<30-1, 1<<30), 2}, {sp(lowest, highest), sp(1<<30, 1<<30), 3},
	} {
		if got := Key(api.Schema{x.r}, api.Filter{x.f}); got != x.want {
			t.Error(i, x, got)
		}
	}
}

func TestKeyOfAllRanges(t *testing.T) {
	for _, r := range ranges() {
		s := api.Schema{r}
		for _, x := range inside(r) {
			f := api.Filter{x}
			if got := Key(s, f); got != key(s, f) || got > 3 {
				t.Error(s, f, got)
			}
		}
	}
}

func TestKeyOfManyRanges(t *testing.T) {
	all := ranges()
	for i := range all {
		for n := 1; n <= 4; n++ {
			s := api.Schema{}
			for j := range n {
				s = append(s, all[(i+29*j)%len(all)])
			}
			for k := range 60 {
				f := api.Filter{}
				for j, r := range s {
					few := inside(r)
					f = append(f, few[(k*(2*j+1)+i)%len(few)])
				}
				if got := Key(s, f); got != key(s, f) || int(got) >= 1<<(2*n) {
					t.Error(s, f, got)
				}
			}
		}
	}
}

func TestKeyOfEachQuarter(t *testing.T) {
	for n := 1; n <= 4; n++ {
		for want := range 1 << (2 * n) {
			s, f := api.Schema{}, api.Filter{}
			for j := range n {
				at := int32(want >> (2 * (n - 1 - j)) % 4)
				s, f = append(s, sp(-40, 39)), append(f, sp(-40+20*at, -21+20*at))
			}
			if got := Key(s, f); int(got) != want {
				t.Error(f, got, want)
			}
		}
	}
}

func TestKeyOfSpareCapacity(t *testing.T) {
	s, _ := full(two[:1], sp(0, 9))
	f, _ := full(api.Filter{sp(9, 9)}, sp(9, 9))
	if got := Key(s, f); got != 3 {
		t.Error("spare capacity counts", got)
	}
}

// P6.3

func TestOverlapIsSymmetric(t *testing.T) {
	for _, list := range [][]api.Filter{small(), large()} {
		for _, a := range list {
			own := Overlap(a, a)
			for _, b := range list {
				both := Overlap(a, b)
				if both != Overlap(b, a) {
					t.Fatal("not symmetric", a, b, both)
				}
				if both > own || both > Overlap(b, b) {
					t.Fatal("more than with itself", a, b, both)
				}
				if (both == 0) != (len(filter.Meet(a, b)) == 0) {
					t.Fatal("nothing in common", a, b, both)
				}
			}
		}
	}
}

func TestWhatCoversHasNoLessInCommon(t *testing.T) {
	few := append(small(), longs(1<<32), longs(1<<32, 1<<32), longs(1<<31, 3), longs(65536, 65536), longs(65536, 65535), longs(65535, 65537))
	for _, a := range few {
		for _, b := range few {
			if !filter.Covers(a, b) {
				continue
			}
			for _, c := range few {
				if Overlap(a, c) < Overlap(b, c) {
					t.Fatal(a, b, c)
				}
			}
		}
	}
}

// Filters that are not right, and schemas that are not: nothing is specified but that every call ends, and answers the same again.

func TestKeyOfOthers(t *testing.T) {
	schemas := []api.Schema{nil, {}, two, {sp(1, 0)}, {{}}, {sp(highest, lowest), {}}, {sp(0, -1), sp(0, -1)}, {sp(lowest, highest)}, make(api.Schema, 5), make(api.Schema, 100), slices.Repeat(api.Schema{sp(-1, 2)}, 7), slices.Repeat(api.Schema{sp(1, 0)}, 300)}
	for _, s := range schemas {
		for _, f := range append(append(small(), large()...), api.Filter(s), make(api.Filter, 100), slices.Repeat(api.Filter{sp(1, 0)}, 300)) {
			if Key(s, f) != Key(slices.Clone(s), slices.Clone(f)) {
				t.Error(s, f)
			}
		}
	}
}

// R3: arguments stay as they are, with their spare capacity.

func TestArgumentsStay(t *testing.T) {
	for _, f := range []api.Filter{nil, {sp(1, 2)}, {sp(3, 20), sp(-9, 0)}, {sp(3, 9), sp(-5, 0)}, {sp(4, 3), sp(1, 0)}, {{}, {}, {}}} {
		for _, g := range []api.Filter{nil, {sp(2, 3)}, {sp(0, 3), sp(0, 9)}, {sp(3, 9), sp(-5, 0)}, {{}, {}, {}}} {
			s, allRanges := full(two, sp(1, 2))
			a, allA := full(f, sp(3, 4))
			b, allB := full(g, sp(5, 6))
			keptRanges, keptA, keptB := slices.Clone(allRanges), slices.Clone(allA), slices.Clone(allB)
			Overlap(a, b)
			Overlap(a, a)
			Key(s, a)
			if !slices.Equal(allRanges, keptRanges) || !slices.Equal(allA, keptA) || !slices.Equal(allB, keptB) {
				t.Error(f, g, allRanges, allA, allB)
			}
		}
	}
}
