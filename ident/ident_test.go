package ident

import (
	"cmp"
	"math"
	"math/rand"
	"slices"
	"testing"

	"grapevine/api"
)

const most = math.MaxUint32

func id(node uint8, inc uint16, seq uint32) api.ID {
	return api.ID{Node: node, Inc: inc, Seq: seq}
}

var (
	nodes   = []uint8{0, 1, 2, 11, 12, 127, 128, 254, 255}
	incs    = []uint16{0, 1, 2, 255, 256, 1<<15 - 1, 1 << 15, api.MaxInc - 1, api.MaxInc}
	numbers = []uint32{0, 1, 2, 3, 1<<16 - 1, 1 << 16, 1<<31 - 1, 1 << 31, most - 1, most}
)

// all are ids of each of those nodes, incarnations and numbers, in increasing order.
func all() []api.ID {
	list := []api.ID{}
	for _, node := range nodes {
		for _, inc := range incs {
			for _, seq := range numbers {
				list = append(list, id(node, inc, seq))
			}
		}
	}
	return list
}

// few are ids that differ in one part or in several ones, in increasing order.
var few = []api.ID{id(0, 1, 1), id(0, 1, 2), id(0, 2, 1), id(1, 1, 1), id(1, 1, 3)}

// lists are all lists of at most n ids out of few, in any order, the same ones several times, too.
func lists(n int) [][]api.ID {
	done, last := [][]api.ID{nil, {}}, [][]api.ID{nil}
	for range n {
		longer := [][]api.ID{}
		for _, l := range last {
			for _, x := range few {
				longer = append(longer, append(slices.Clone(l), x))
			}
		}
		done, last = append(done, longer...), longer
	}
	return done
}

// long are lists of many ids: increasing ones, and others.
func long() [][]api.ID {
	up := all()
	down := slices.Clone(up)
	slices.Reverse(down)
	draw := rand.New(rand.NewSource(7))
	found := [][]api.ID{up, down, slices.Repeat([]api.ID{up[5]}, 40)}
	for range 60 {
		mixed := slices.Clone(up)
		draw.Shuffle(len(mixed), func(i, j int) { mixed[i], mixed[j] = mixed[j], mixed[i] })
		part := mixed[:draw.Intn(50)]
		sorted := slices.Clone(part)
		slices.SortFunc(sorted, func(a, b api.ID) int { return cmp.Compare(order(a), order(b)) })
		found = append(found, part, append(slices.Clone(part), part...), sorted)
	}
	return found
}

// order is the chapter's order by itself: one number that is greater for a greater id.
func order(x api.ID) uint64 {
	return (uint64(x.Node)<<16+uint64(x.Inc))<<32 + uint64(x.Seq)
}

// count is how many elements of l are x.
func count(l []api.ID, x api.ID) int {
	n := 0
	for i := range l {
		if order(l[i]) == order(x) {
			n++
		}
	}
	return n
}

// increasing is the chapter's term by itself, for each pair of ids.
func increasing(l []api.ID) bool {
	for i := range l {
		for j := range i {
			if order(l[j]) >= order(l[i]) {
				return false
			}
		}
	}
	return true
}

// put is the chapter's term by itself.
func put(l []api.ID, x api.ID) []api.ID {
	got := []api.ID{}
	in := count(l, x) > 0
	for _, y := range l {
		if !in && order(x) < order(y) {
			got, in = append(got, x), true
		}
		got = append(got, y)
	}
	if !in {
		got = append(got, x)
	}
	return got
}

// drop is the chapter's term by itself.
func drop(l []api.ID, x api.ID) []api.ID {
	got := []api.ID{}
	for _, y := range l {
		if order(x) != order(y) {
			got = append(got, y)
		}
	}
	return got
}

// full returns list as a slice with spare capacity, and all its memory.
func full(list []api.ID, spare api.ID) (part, whole []api.ID) {
	whole = append(slices.Clone(list), spare, spare, spare, spare, spare, spare)
	return whole[:len(list)], whole
}

// fill writes x into all of the memory of list.
func fill(list []api.ID, x api.ID) {
	list = list[:cap(list)]
	for i := range list {
		list[i] = x
	}
}

// P7.1

func TestRight(t *testing.T) {
	for i, x := range []struct {
		id    api.ID
		nodes int
		last  uint32
		want  bool
	}{
		{id(1, 2, 3), 2, 3, true}, {id(1, 2, 3), 1, 3, false}, {id(1, 2, 3), 2, 2, false}, {id(1, 0, 3), 2, 3, false},
		{id(1, 2, 3), 3, 4, true}, {id(1, 2, 0), 2, 3, false}, {id(1, 1, 1), 2, 3, true}, {id(0, 1, 1), 1, 1, true},
		{id(0, 1, 1), 0, 1, false}, {id(0, 1, 1), -1, 1, false}, {id(255, 1, 1), -1, 1, false}, {id(0, 1, 1), math.MinInt, 1, false}, {id(0, 1, 1), math.MaxInt, 1, true},
		{id(0, 1, 1), 256, 1, true}, {id(255, 1, 1), 256, 1, true}, {id(255, 1, 1), 255, 1, false}, {id(254, 1, 1), 255, 1, true}, {id(255, 1, 1), 1 << 20, 1, true}, {id(5, 1, 1), 257, 1, true}, {id(5, 1, 1), -256 + 9, 1, false},
		{id(0, 1, 0), 1, 0, false}, {id(0, 1, 1), 1, 0, false}, {id(0, 1, most), 1, 0, false}, {id(0, 1, most), 1, most, true}, {id(0, 1, most), 1, most - 1, false}, {id(0, 1, 0), 1, most, false}, {id(0, 1, 1), 1, most, true},
		{id(0, api.MaxInc, 1), 1, 1, true}, {id(11, 1, 1), api.MaxNodes, 1, true}, {id(12, 1, 1), api.MaxNodes, 1, false}, {api.ID{}, 12, 9, false}, {api.ID{}, 0, 0, false},
	} {
		if got := Right(x.id, x.nodes, x.last); got != x.want {
			t.Error(i, x, got)
		}
	}
}

func TestRightOfMany(t *testing.T) {
	for _, x := range all() {
		for _, n := range []int{math.MinInt, -256, -1, 0, 1, 2, 12, 128, 255, 256, 257, 512, math.MaxInt} {
			for _, last := range numbers {
				below := false
				for node := range min(n, 256) {
					below = below || int(x.Node) == node
				}
				want := below && x.Inc != 0 && x.Seq != 0 && !(x.Seq > last)
				if got := Right(x, n, last); got != want {
					t.Fatal(x, n, last, got)
				}
			}
		}
	}
}

func TestLess(t *testing.T) {
	for i, x := range []struct {
		a, b api.ID
		want bool
	}{
		{id(0, 1, 1), id(0, 1, 2), true}, {id(0, 1, 2), id(0, 1, 1), false}, {id(0, 1, 1), id(0, 1, 1), false}, {api.ID{}, api.ID{}, false},
		{id(0, 9, 9), id(1, 1, 1), true}, {id(1, 1, 1), id(0, 9, 9), false}, {id(3, 1, 9), id(3, 2, 1), true}, {id(3, 2, 1), id(3, 1, 9), false},
		{id(0, api.MaxInc, most), id(1, 0, 0), true}, {id(0, 0, most), id(0, 1, 0), true}, {id(255, 0, 0), id(0, api.MaxInc, most), false},
		{id(127, 1, 1), id(128, 1, 1), true}, {id(0, 1<<15-1, 1), id(0, 1<<15, 1), true}, {id(0, 1, 1<<31-1), id(0, 1, 1<<31), true}, {id(0, 1, 0), id(0, 1, most), true}, {id(0, 1, most), id(0, 1, 0), false},
	} {
		if got := Less(x.a, x.b); got != x.want {
			t.Error(i, x, got)
		}
	}
}

func TestLessOfMany(t *testing.T) {
	list := all()
	for i, a := range list {
		for j, b := range list {
			if got := Less(a, b); got != (i < j) {
				t.Fatal(a, b, got)
			}
		}
	}
}

func TestRising(t *testing.T) {
	for i, x := range []struct {
		l    []api.ID
		want bool
	}{
		{nil, true}, {[]api.ID{}, true}, {few[:1], true}, {[]api.ID{{}}, true}, {few, true}, {all(), true},
		{[]api.ID{few[0], few[0]}, false}, {[]api.ID{few[1], few[0]}, false}, {[]api.ID{few[0], few[1], few[1]}, false}, {[]api.ID{few[1], few[0], few[2]}, false}, {[]api.ID{few[0], few[2], few[1]}, false},
		{[]api.ID{few[0], few[3], few[1], few[4]}, false}, {[]api.ID{{}, {}}, false},
	} {
		if got := Rising(x.l); got != x.want {
			t.Error(i, x, got)
		}
	}
}

func TestRisingOfMany(t *testing.T) {
	for _, l := range append(lists(5), long()...) {
		if got := Rising(l); got != increasing(l) {
			t.Fatal(l, got)
		}
	}
}

func TestHas(t *testing.T) {
	for i, x := range []struct {
		l    []api.ID
		x    api.ID
		want bool
	}{
		{nil, api.ID{}, false}, {[]api.ID{}, few[0], false}, {[]api.ID{{}}, api.ID{}, true}, {few[:1], few[0], true}, {few[:1], few[1], false},
		{few, few[0], true}, {few, few[2], true}, {few, few[4], true}, {few, id(1, 1, 2), false}, {few, id(2, 1, 1), false}, {few, api.ID{}, false},
		{few[:1], id(1, 1, 1), false}, {few[:1], id(0, 2, 1), false}, {few[:1], id(0, 1, 2), false},
		{[]api.ID{few[4], few[2], few[3], few[2]}, few[2], true}, {[]api.ID{few[4], few[2], few[3]}, few[3], true}, {[]api.ID{few[4], few[2], few[3]}, few[0], false},
	} {
		if got := Has(x.l, x.x); got != x.want {
			t.Error(i, x, got)
		}
	}
}

func TestHasOfMany(t *testing.T) {
	for _, l := range append(lists(4), long()...) {
		for _, x := range append(all()[:200], few...) {
			if got := Has(l, x); got != (count(l, x) > 0) {
				t.Fatal(l, x, got)
			}
		}
	}
}

func TestSpareCapacityIsNotLookedAt(t *testing.T) {
	part, _ := full(few[:2], few[0])
	if !Rising(part) {
		t.Error("rising")
	}
	part, _ = full(few[:2], few[4])
	if Has(part, few[4]) {
		t.Error("has")
	}
	if got := Put(part, few[4]); !slices.Equal(got, []api.ID{few[0], few[1], few[4]}) {
		t.Error("put", got)
	}
	if got := Put(part, few[3]); !slices.Equal(got, []api.ID{few[0], few[1], few[3]}) {
		t.Error("put", got)
	}
	if got := Drop(part, few[0]); !slices.Equal(got, few[1:2]) {
		t.Error("drop", got)
	}
}

// P7.2

func TestNext(t *testing.T) {
	for i, x := range []struct {
		x, want api.ID
		last    uint32
		err     api.Errno
	}{
		{id(1, 2, 3), id(1, 2, 4), 4, api.OK}, {id(1, 2, 3), api.ID{}, 3, api.ErrSpent}, {id(1, 2, 0), id(1, 2, 1), 3, api.OK}, {id(1, 2, 0), id(1, 2, 1), 1, api.OK},
		{id(1, 2, 3), api.ID{}, 2, api.ErrSpent}, {id(1, 2, 3), api.ID{}, 0, api.ErrSpent}, {id(1, 2, 0), api.ID{}, 0, api.ErrSpent}, {api.ID{}, api.ID{}, 0, api.ErrSpent}, {api.ID{}, id(0, 0, 1), 9, api.OK},
		{id(1, 2, most), api.ID{}, most, api.ErrSpent}, {id(1, 2, most-1), id(1, 2, most), most, api.OK}, {id(1, 2, most), api.ID{}, most - 1, api.ErrSpent}, {id(1, 2, most), api.ID{}, 0, api.ErrSpent},
		{id(1, 2, 1<<31-1), id(1, 2, 1<<31), most, api.OK}, {id(1, 2, 1<<31), api.ID{}, 1, api.ErrSpent}, {id(1, 2, 1<<16-1), id(1, 2, 1<<16), 1 << 16, api.OK}, {id(255, api.MaxInc, 255), id(255, api.MaxInc, 256), 256, api.OK},
	} {
		if got, err := Next(x.x, x.last); got != x.want || err != x.err {
			t.Error(i, x, got, err)
		}
	}
}

func TestNextOfMany(t *testing.T) {
	for _, x := range all() {
		for _, last := range numbers {
			got, err := Next(x, last)
			if int64(x.Seq) < int64(last) {
				if err != api.OK || order(got) != order(x)+1 || got.Node != x.Node || got.Inc != x.Inc {
					t.Fatal(x, last, got, err)
				}
			} else if err != api.ErrSpent || got != (api.ID{}) {
				t.Fatal(x, last, got, err)
			}
		}
	}
}

func TestAllNumbersOfALife(t *testing.T) {
	x := id(3, 4, 0)
	for want := uint32(1); want <= 1000; want++ {
		next, err := Next(x, 1000)
		if err != api.OK || next != id(3, 4, want) || !Right(next, 4, 1000) || !Less(x, next) {
			t.Fatal(want, next, err)
		}
		x = next
	}
	if next, err := Next(x, 1000); err != api.ErrSpent || next != (api.ID{}) {
		t.Error(next, err)
	}
}

// P7.3

func TestPut(t *testing.T) {
	for i, c := range []struct {
		l    []api.ID
		x    api.ID
		want []api.ID
	}{
		{[]api.ID{id(0, 1, 1), id(0, 1, 3)}, id(0, 1, 2), []api.ID{id(0, 1, 1), id(0, 1, 2), id(0, 1, 3)}},
		{nil, few[0], few[:1]}, {[]api.ID{}, few[0], few[:1]}, {nil, api.ID{}, []api.ID{{}}}, {few[1:], few[0], few}, {few[:4], few[4], few}, {few, few[2], few}, {few, few[0], few}, {few, few[4], few},
		{[]api.ID{few[4], few[0]}, few[2], []api.ID{few[2], few[4], few[0]}}, {[]api.ID{few[0], few[4], few[1], few[3]}, few[2], []api.ID{few[0], few[2], few[4], few[1], few[3]}},
		{[]api.ID{few[4], few[0]}, few[0], []api.ID{few[4], few[0]}}, {[]api.ID{few[2], few[2]}, few[2], []api.ID{few[2], few[2]}}, {[]api.ID{few[2], few[2]}, few[1], []api.ID{few[1], few[2], few[2]}}, {[]api.ID{few[2], few[2]}, few[3], []api.ID{few[2], few[2], few[3]}},
		{[]api.ID{few[4], few[3], few[2]}, few[1], []api.ID{few[1], few[4], few[3], few[2]}}, {[]api.ID{few[3], few[2], few[1]}, few[4], []api.ID{few[3], few[2], few[1], few[4]}},
		{[]api.ID{id(0, 9, 9)}, id(1, 1, 1), []api.ID{id(0, 9, 9), id(1, 1, 1)}}, {[]api.ID{id(1, 1, 1)}, id(0, 9, 9), []api.ID{id(0, 9, 9), id(1, 1, 1)}}, {[]api.ID{id(1, 2, 1)}, id(1, 1, 9), []api.ID{id(1, 1, 9), id(1, 2, 1)}},
	} {
		if got := Put(c.l, c.x); !slices.Equal(got, c.want) {
			t.Error(i, c, got)
		}
	}
}

func TestDrop(t *testing.T) {
	for i, c := range []struct {
		l    []api.ID
		x    api.ID
		want []api.ID
	}{
		{[]api.ID{id(0, 1, 1), id(0, 1, 2), id(0, 1, 3)}, id(0, 1, 3), []api.ID{id(0, 1, 1), id(0, 1, 2)}},
		{nil, few[0], nil}, {[]api.ID{}, api.ID{}, nil}, {few[:1], few[0], nil}, {few[:1], few[1], few[:1]}, {few, few[0], few[1:]}, {few, few[4], few[:4]}, {few, few[1], []api.ID{few[0], few[2], few[3], few[4]}}, {few, id(7, 7, 7), few}, {few, api.ID{}, few},
		{[]api.ID{few[2], few[2], few[2]}, few[2], nil}, {[]api.ID{few[2], few[4], few[2], few[0], few[2]}, few[2], []api.ID{few[4], few[0]}}, {[]api.ID{few[4], few[2], few[2], few[4]}, few[2], []api.ID{few[4], few[4]}}, {[]api.ID{few[4], few[0], few[4]}, few[1], []api.ID{few[4], few[0], few[4]}},
		{[]api.ID{{}, few[0], {}}, api.ID{}, few[:1]}, {few, id(0, 2, 2), few}, {few, id(1, 2, 1), few},
	} {
		if got := Drop(c.l, c.x); !slices.Equal(got, c.want) {
			t.Error(i, c, got)
		}
	}
}

func TestPutAndDropOfMany(t *testing.T) {
	for _, l := range append(lists(5), long()...) {
		for _, x := range append(slices.Clone(few), api.ID{}, id(0, 1, 3), id(1, 1, 2), id(128, 255, 3), id(255, api.MaxInc, most)) {
			if got := Put(l, x); !slices.Equal(got, put(l, x)) {
				t.Fatal("put", l, x, got)
			}
			if got := Drop(l, x); !slices.Equal(got, drop(l, x)) {
				t.Fatal("drop", l, x, got)
			}
		}
	}
}

// P7.4

func TestOneIsLessOrBothAreTheSame(t *testing.T) {
	list := all()
	for _, a := range list {
		for _, b := range list {
			n := 0
			for _, holds := range []bool{Less(a, b), Less(b, a), a == b} {
				if holds {
					n++
				}
			}
			if n != 1 {
				t.Fatal(a, b, n)
			}
		}
	}
}

func TestLessIsHandedOn(t *testing.T) {
	for _, a := range few {
		for _, b := range few {
			for _, c := range few {
				if Less(a, b) && Less(b, c) && !Less(a, c) {
					t.Error(a, b, c)
				}
			}
		}
	}
}

func TestIncreasingStaysIncreasing(t *testing.T) {
	draw := rand.New(rand.NewSource(8))
	ids := all()
	for range 100 {
		l, want := []api.ID(nil), map[api.ID]bool{}
		for range 60 {
			x := ids[draw.Intn(70)]
			if draw.Intn(3) > 0 {
				l, want[x] = Put(l, x), true
			} else {
				l = Drop(l, x)
				delete(want, x)
			}
			if !Rising(l) || len(l) != len(want) || Has(l, x) != want[x] {
				t.Fatal(l, x)
			}
			for y := range want {
				if !Has(l, y) {
					t.Fatal("lost", l, y)
				}
			}
		}
	}
}

func TestOthersStay(t *testing.T) {
	for _, l := range lists(4) {
		for _, x := range few {
			more, less := Put(l, x), Drop(l, x)
			if !Has(more, x) || Has(less, x) {
				t.Fatal(l, x, more, less)
			}
			if increasing(l) && !(Rising(more) && Rising(less)) {
				t.Fatal("no longer increasing", l, x, more, less)
			}
			for _, y := range few {
				if y != x && (count(more, y) != count(l, y) || count(less, y) != count(l, y)) {
					t.Fatal(l, x, y, more, less)
				}
			}
		}
	}
}

// R3

func TestArgumentsStay(t *testing.T) {
	for _, l := range append(lists(3), long()...) {
		for _, x := range []api.ID{few[0], few[2], few[4], id(1, 1, 2)} {
			part, whole := full(l, id(9, 9, 9))
			before := slices.Clone(whole)
			Rising(part)
			Has(part, x)
			Put(part, x)
			Drop(part, x)
			if !slices.Equal(whole, before) {
				t.Fatal(l, x, whole)
			}
		}
	}
}

func TestResultsAreTheirOwn(t *testing.T) {
	for _, l := range append(lists(3), long()...) {
		for _, x := range []api.ID{few[0], few[2], few[4], id(1, 1, 2)} {
			part, whole := full(l, id(9, 9, 9))
			results := [][]api.ID{Put(part, x), Put(part, x), Drop(part, x), Drop(part, x)}
			wants := [][]api.ID{put(l, x), put(l, x), drop(l, x), drop(l, x)}
			fill(whole, id(7, 7, 7))
			for i, got := range results {
				if !slices.Equal(got, wants[i]) {
					t.Fatal("memory of the argument", i, l, x, got)
				}
				fill(got, id(8, 8, 8))
			}
			for _, y := range whole {
				if y != id(7, 7, 7) {
					t.Fatal("memory of the argument", l, x, whole)
				}
			}
		}
	}
}

func TestResultsDoNotShare(t *testing.T) {
	for _, l := range lists(3) {
		for _, x := range few {
			first, second := Put(l, x), Put(l, x)
			fill(first, id(8, 8, 8))
			if !slices.Equal(second, put(l, x)) {
				t.Fatal("put", l, x)
			}
			first, second = Drop(l, x), Drop(l, x)
			fill(first, id(8, 8, 8))
			if !slices.Equal(second, drop(l, x)) {
				t.Fatal("drop", l, x)
			}
		}
	}
}
