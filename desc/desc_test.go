package desc

import (
	"math"
	"math/rand"
	"slices"
	"testing"

	"grapevine/api"
	"grapevine/desctest"
)

var (
	span = desctest.Span
	desc = desctest.Full
	bare = desctest.Bare
)

var (
	nodes = []uint8{0, 1, 2, 11, 12, 127, 128, 254, 255}
	incs  = []uint16{0, 1, 2, 255, 256, 1<<15 - 1, 1 << 15, api.MaxInc - 1, api.MaxInc}
	ages  = []uint8{0, 1, 2, 3, 127, 128, 253, 254, 255}
	rooms = []int{math.MinInt, -256, -1, 0, 1, 2, 3, 4, 5, 12, 255, 256, math.MaxInt}
)

// filters are filters, each one another one.
func filters() []api.Filter {
	return []api.Filter{
		nil, {span(0, 0)}, {span(0, 1)}, {span(1, 0)}, {span(1, 1)}, {span(0, 0), span(0, 0)}, {span(0, 1), span(0, 0)}, {span(0, 0), span(0, 1)}, {span(0, 0), span(1, 0)},
		{span(math.MinInt32, math.MaxInt32)}, {span(math.MaxInt32, math.MinInt32)}, {span(0, 0), span(0, 0), span(0, 0), span(0, 0)}, {span(0, 0), span(0, 0), span(0, 0), span(0, 2)}, {span(0, 0), span(0, 0), span(0, 0), span(0, 0), span(0, 0)},
	}
}

// put is the chapter's term by itself.
func put(l []api.Desc, d api.Desc, self uint8, room int) ([]api.Desc, bool) {
	if !desctest.Accepts(l, d, self, room) {
		return l, false
	}
	return desctest.With(l, d), true
}

// older is the chapter's term by itself.
func older(l []api.Desc) []api.Desc {
	got := desctest.Copied(l)
	for i := range got {
		if got[i].Age < 255 {
			got[i].Age++
		}
	}
	return got
}

// views are all lists of increasing nodes from 1 to 4, each with one of a few incarnations and ages; right ones for self 0 and for self 5 if each incarnation is at least 1.
func views() [][]api.Desc {
	list := [][]api.Desc{nil}
	for node := uint8(1); node <= 4; node++ {
		for _, l := range slices.Clone(list) {
			for _, d := range []api.Desc{desc(node, 1, 0), desc(node, 1, 4), desc(node, 2, 4), bare(node, 2, 255)} {
				list = append(list, append(desctest.Copied(l), d))
			}
		}
	}
	return list
}

// long are views of many nodes, with drawn incarnations and ages, without node 100.
func long() [][]api.Desc {
	draw := rand.New(rand.NewSource(9))
	list := [][]api.Desc{}
	for _, part := range []int{1, 2, 3, 10, 100} {
		for range 8 {
			l := []api.Desc{}
			for node := range 256 {
				if node != 100 && draw.Intn(part) == 0 {
					l = append(l, desc(uint8(node), uint16(1+draw.Intn(3)), uint8(draw.Intn(256))))
				}
			}
			list = append(list, l)
		}
	}
	return list
}

// others are lists that are no views: nodes that do not increase, nodes several times, no incarnation.
func others() [][]api.Desc {
	list := [][]api.Desc{{desc(1, 0, 3)}, {{}, {}}, {desc(3, 1, 1), desc(3, 1, 1), desc(3, 2, 1)}, {desc(4, 1, 1), desc(3, 1, 1), desc(2, 1, 1), desc(1, 1, 1)}, {desc(255, 1, 255), desc(0, 0, 0), desc(255, 1, 0)}}
	for _, l := range long() {
		down := desctest.Copied(l)
		slices.Reverse(down)
		list = append(list, down, append(desctest.Copied(l), desctest.Copied(l)...))
	}
	return list
}

// P9.1

func TestSame(t *testing.T) {
	a := api.Desc{Node: 1, Inc: 2, Age: 3, Filter: api.Filter{span(1, 2), span(3, 4)}}
	for i, x := range []struct {
		b    api.Desc
		want bool
	}{
		{api.Desc{Node: 1, Inc: 2, Age: 3, Filter: api.Filter{span(1, 2), span(3, 4)}}, true},
		{api.Desc{Node: 2, Inc: 2, Age: 3, Filter: api.Filter{span(1, 2), span(3, 4)}}, false},
		{api.Desc{Node: 1, Inc: 1, Age: 3, Filter: api.Filter{span(1, 2), span(3, 4)}}, false},
		{api.Desc{Node: 1, Inc: 2 + 256, Age: 3, Filter: api.Filter{span(1, 2), span(3, 4)}}, false},
		{api.Desc{Node: 1, Inc: 2, Age: 4, Filter: api.Filter{span(1, 2), span(3, 4)}}, false},
		{api.Desc{Node: 1, Inc: 2, Age: 3, Filter: api.Filter{span(0, 2), span(3, 4)}}, false},
		{api.Desc{Node: 1, Inc: 2, Age: 3, Filter: api.Filter{span(1, 2), span(3, 5)}}, false},
		{api.Desc{Node: 1, Inc: 2, Age: 3, Filter: api.Filter{span(3, 4), span(1, 2)}}, false},
		{api.Desc{Node: 1, Inc: 2, Age: 3, Filter: api.Filter{span(1, 2)}}, false},
		{api.Desc{Node: 1, Inc: 2, Age: 3, Filter: api.Filter{span(1, 2), span(3, 4), span(3, 4)}}, false},
		{api.Desc{Node: 1, Inc: 2, Age: 3}, false}, {api.Desc{}, false},
	} {
		if got, back := Same(a, x.b), Same(x.b, a); got != x.want || back != x.want {
			t.Error(i, x, got, back)
		}
	}
	if !Same(api.Desc{}, api.Desc{}) || !Same(api.Desc{Filter: api.Filter{}}, api.Desc{}) || !Same(api.Desc{}, api.Desc{Filter: api.Filter{}}) {
		t.Error("an empty filter and none are the same")
	}
}

func TestSameOfMany(t *testing.T) {
	list := []api.Desc{}
	for _, node := range nodes[:4] {
		for _, inc := range incs[:5] {
			for _, age := range ages[:3] {
				for _, f := range filters() {
					list = append(list, api.Desc{Node: node, Inc: inc, Age: age, Filter: f})
				}
			}
		}
	}
	for i, a := range list {
		for j, b := range list {
			b.Filter = slices.Clone(b.Filter)
			if got := Same(a, b); got != (i == j) {
				t.Fatal(a, b, got)
			}
		}
	}
}

func TestSameLooksAtSpansAlone(t *testing.T) {
	long := api.Filter{span(1, 2), span(3, 4), span(5, 6)}
	a, b := api.Desc{Filter: long[:1]}, api.Desc{Filter: desctest.RoomyFilter(api.Filter{span(1, 2)})}
	if !Same(a, b) {
		t.Error("what is behind the end counts")
	}
	if Same(api.Desc{Filter: long[:1]}, api.Desc{Filter: long[:2]}) {
		t.Error("the length does not count")
	}
}

func TestCopy(t *testing.T) {
	if got := Copy(nil); len(got) != 0 {
		t.Error(got)
	}
	if got := Copy([]api.Desc{}); len(got) != 0 {
		t.Error(got)
	}
	for _, l := range slices.Concat(views(), long(), others()) {
		want := desctest.Copied(l)
		if got := Copy(l); !desctest.Same(got, want) {
			t.Fatal(l, got)
		}
	}
	for _, f := range filters() {
		l := []api.Desc{{Node: 3, Inc: 2, Age: 1, Filter: f}, {Node: 1, Filter: f}}
		if got := Copy(l); !desctest.Same(got, desctest.Copied(l)) {
			t.Error(l, got)
		}
	}
}

func TestCopyIsDeep(t *testing.T) {
	l := []api.Desc{desc(1, 1, 1), desc(2, 2, 2)}
	got := Copy(l)
	l[0].Filter[0], l[1].Filter[1], l[1].Node = span(8, 8), span(8, 8), 8
	if !desctest.Same(got, []api.Desc{desc(1, 1, 1), desc(2, 2, 2)}) {
		t.Error(got)
	}
	shared := api.Filter{span(1, 1)}
	got = Copy([]api.Desc{{Node: 1, Filter: shared}, {Node: 2, Filter: shared}})
	got[0].Filter[0].To = 9
	if got[1].Filter[0] != span(1, 1) || shared[0] != span(1, 1) {
		t.Error("filters share memory", got, shared)
	}
}

func TestRight(t *testing.T) {
	two := []api.Desc{desc(1, 1, 4), desc(3, 1, 4)}
	for i, x := range []struct {
		l    []api.Desc
		self uint8
		room int
		want bool
	}{
		{two, 0, 2, true}, {two, 0, 3, true}, {two, 0, 1, false}, {two, 0, 0, false}, {two, 0, -1, false}, {two, 0, math.MinInt, false}, {two, 0, math.MaxInt, true},
		{two, 1, 2, false}, {two, 3, 2, false}, {two, 2, 2, true}, {two, 4, 2, true}, {two, 255, 2, true}, {two, 1, 9, false},
		{nil, 0, 0, true}, {[]api.Desc{}, 0, 0, true}, {nil, 0, 1, true}, {nil, 0, -1, false}, {nil, 255, math.MinInt, false}, {[]api.Desc{}, 3, -1, false},
		{[]api.Desc{desc(3, 1, 4), desc(1, 1, 4)}, 0, 2, false}, {[]api.Desc{desc(1, 1, 4), desc(1, 1, 4)}, 0, 2, false}, {[]api.Desc{desc(1, 1, 4), desc(1, 2, 4)}, 0, 2, false},
		{[]api.Desc{desc(1, 0, 4), desc(3, 1, 4)}, 0, 2, false}, {[]api.Desc{desc(1, 1, 4), desc(3, 0, 4)}, 0, 2, false}, {[]api.Desc{{}}, 1, 2, false}, {[]api.Desc{bare(0, 1, 0)}, 1, 2, true}, {[]api.Desc{bare(0, 1, 0)}, 0, 2, false},
		{[]api.Desc{bare(0, api.MaxInc, 255), bare(255, 256, 255)}, 1, 2, true}, {[]api.Desc{bare(127, 1, 1), bare(128, 1, 1)}, 1, 2, true}, {[]api.Desc{bare(128, 1, 1), bare(127, 1, 1)}, 1, 2, false},
		{[]api.Desc{bare(1, 1, 1), bare(3, 1, 1), bare(2, 1, 1)}, 0, 3, false}, {[]api.Desc{bare(2, 1, 1), bare(1, 1, 1), bare(3, 1, 1)}, 0, 3, false}, {[]api.Desc{bare(1, 1, 1), bare(2, 1, 1), bare(2, 1, 1)}, 0, 3, false}, {[]api.Desc{bare(1, 1, 1), bare(2, 1, 1), bare(3, 1, 1)}, 0, 3, true},
	} {
		if got := Right(x.l, x.self, x.room); got != x.want {
			t.Error(i, x, got)
		}
	}
}

func TestRightOfMany(t *testing.T) {
	for _, l := range slices.Concat(views(), long(), others()) {
		for _, self := range []uint8{0, 1, 2, 3, 4, 5, 100, 128, 255} {
			for _, room := range append(slices.Clone(rooms), len(l)-1, len(l), len(l)+1) {
				if got := Right(l, self, room); got != desctest.IsView(l, self, room) {
					t.Fatal(l, self, room, got)
				}
			}
		}
	}
}

// small are all lists of at most three descriptors of few nodes and incarnations, in any order.
func small() [][]api.Desc {
	done, last := [][]api.Desc{nil}, [][]api.Desc{nil}
	for range 3 {
		longer := [][]api.Desc{}
		for _, l := range last {
			for node := range uint8(3) {
				for inc := range uint16(3) {
					longer = append(longer, append(slices.Clone(l), bare(node, inc, 5)))
				}
			}
		}
		done, last = append(done, longer...), longer
	}
	return done
}

func TestRightOfAllSmallLists(t *testing.T) {
	for _, l := range small() {
		for self := range uint8(4) {
			for room := -1; room <= 4; room++ {
				if got := Right(l, self, room); got != desctest.IsView(l, self, room) {
					t.Fatal(l, self, room, got)
				}
			}
		}
	}
}

// P9.2

func TestFind(t *testing.T) {
	two := []api.Desc{desc(1, 1, 4), desc(3, 1, 4)}
	for i, x := range []struct {
		l    []api.Desc
		node uint8
		want int
	}{
		{nil, 0, -1}, {[]api.Desc{}, 3, -1}, {two, 1, 0}, {two, 3, 1}, {two, 0, -1}, {two, 2, -1}, {two, 4, -1}, {two, 255, -1}, {two[:1], 3, -1}, {two[1:], 1, -1}, {two[1:], 3, 0},
		{[]api.Desc{bare(0, 1, 0)}, 0, 0}, {[]api.Desc{bare(255, 1, 0)}, 255, 0}, {[]api.Desc{bare(255, 1, 0)}, 0, -1}, {[]api.Desc{bare(127, 1, 0), bare(128, 1, 0)}, 128, 1}, {[]api.Desc{bare(127, 1, 0), bare(128, 1, 0)}, 127, 0},
	} {
		if got := Find(x.l, x.node); got != x.want {
			t.Error(i, x, got)
		}
	}
}

func TestDrop(t *testing.T) {
	two := []api.Desc{desc(1, 1, 4), desc(3, 1, 4)}
	for i, x := range []struct {
		l    []api.Desc
		node uint8
		want []api.Desc
	}{
		{nil, 0, nil}, {[]api.Desc{}, 3, nil}, {two, 1, two[1:]}, {two, 3, two[:1]}, {two, 0, two}, {two, 2, two}, {two, 4, two}, {two, 255, two}, {two[:1], 1, nil}, {two[:1], 3, two[:1]},
		{[]api.Desc{bare(0, 1, 0), bare(255, 1, 0)}, 255, []api.Desc{bare(0, 1, 0)}}, {[]api.Desc{bare(0, 1, 0), bare(255, 1, 0)}, 0, []api.Desc{bare(255, 1, 0)}},
	} {
		if got := Drop(x.l, x.node); !desctest.Same(got, x.want) {
			t.Error(i, x, got)
		}
	}
}

func TestFindAndDropOfMany(t *testing.T) {
	for _, l := range append(views(), long()...) {
		for node := range 256 {
			if got := Find(l, uint8(node)); got != desctest.Find(l, uint8(node)) {
				t.Fatal(l, node, got)
			}
			if len(l) > 4 && node%5 > 0 || len(l) <= 4 && node > 6 {
				continue
			}
			if got := Drop(l, uint8(node)); !desctest.Same(got, desctest.Without(l, uint8(node))) {
				t.Fatal(l, node, got)
			}
		}
	}
}

func TestWhatIsBehindTheEndIsNotThere(t *testing.T) {
	part := desctest.Roomy([]api.Desc{desc(1, 1, 4), desc(3, 1, 4)})
	if got := Find(part, 9); got != -1 {
		t.Error(got)
	}
	if got := Drop(part, 9); len(got) != 2 {
		t.Error(got)
	}
	if got := Oldest(part); got != 0 {
		t.Error(got)
	}
	if got, ok := Put(part, desc(9, 1, 1), 0, 3); !ok || !desctest.Same(got, []api.Desc{desc(1, 1, 4), desc(3, 1, 4), desc(9, 1, 1)}) {
		t.Error(got, ok)
	}
}

// P9.3

func TestPut(t *testing.T) {
	two := []api.Desc{desc(1, 1, 4), desc(3, 1, 4)}
	for i, x := range []struct {
		l    []api.Desc
		d    api.Desc
		self uint8
		room int
		want []api.Desc
		ok   bool
	}{
		{two, desc(2, 1, 0), 0, 2, two, false},
		{two, desc(3, 1, 2), 0, 2, []api.Desc{desc(1, 1, 4), desc(3, 1, 2)}, true},
		{two, desc(3, 1, 4), 0, 2, two, false},
		{two, desc(0, 1, 0), 0, 2, two, false},

		{two, desc(2, 1, 0), 0, 3, []api.Desc{desc(1, 1, 4), desc(2, 1, 0), desc(3, 1, 4)}, true},
		{two, desc(0, 1, 0), 2, 3, []api.Desc{desc(0, 1, 0), desc(1, 1, 4), desc(3, 1, 4)}, true},
		{two, desc(4, 1, 0), 0, 3, []api.Desc{desc(1, 1, 4), desc(3, 1, 4), desc(4, 1, 0)}, true},
		{two, desc(255, 1, 255), 0, 3, []api.Desc{desc(1, 1, 4), desc(3, 1, 4), desc(255, 1, 255)}, true},
		{two, desc(2, 1, 0), 2, 3, two, false}, {two, desc(2, 0, 0), 0, 3, two, false}, {two, desc(3, 0, 0), 0, 3, two, false}, {two, desc(0, 0, 0), 0, 3, two, false},

		{two, desc(3, 1, 3), 0, 2, []api.Desc{desc(1, 1, 4), desc(3, 1, 3)}, true},
		{two, desc(3, 1, 0), 0, 2, []api.Desc{desc(1, 1, 4), desc(3, 1, 0)}, true},
		{two, desc(3, 1, 5), 0, 2, two, false}, {two, desc(3, 1, 255), 0, 2, two, false},
		{two, desc(3, 2, 255), 0, 2, []api.Desc{desc(1, 1, 4), desc(3, 2, 255)}, true},
		{two, desc(3, 2, 4), 0, 2, []api.Desc{desc(1, 1, 4), desc(3, 2, 4)}, true},
		{two, desc(3, 2, 0), 0, 2, []api.Desc{desc(1, 1, 4), desc(3, 2, 0)}, true},
		{two, desc(1, api.MaxInc, 9), 0, 2, []api.Desc{desc(1, api.MaxInc, 9), desc(3, 1, 4)}, true},
		{two, desc(1, 2, 9), 0, 12, []api.Desc{desc(1, 2, 9), desc(3, 1, 4)}, true},
		{[]api.Desc{desc(1, 2, 4)}, desc(1, 1, 0), 0, 2, []api.Desc{desc(1, 2, 4)}, false},
		{[]api.Desc{desc(1, 256, 4)}, desc(1, 255, 0), 0, 2, []api.Desc{desc(1, 256, 4)}, false},
		{[]api.Desc{desc(1, 255, 0)}, desc(1, 256, 4), 0, 2, []api.Desc{desc(1, 256, 4)}, true},

		{nil, desc(1, 1, 0), 0, 1, []api.Desc{desc(1, 1, 0)}, true}, {[]api.Desc{}, desc(0, 1, 0), 3, 1, []api.Desc{desc(0, 1, 0)}, true}, {nil, bare(1, 1, 0), 0, math.MaxInt, []api.Desc{bare(1, 1, 0)}, true},
		{nil, desc(1, 1, 0), 0, 0, nil, false}, {nil, desc(1, 1, 0), 0, -1, nil, false}, {nil, desc(1, 1, 0), 0, math.MinInt, nil, false}, {nil, desc(1, 1, 0), 1, 1, nil, false}, {nil, desc(1, 0, 0), 0, 1, nil, false}, {nil, api.Desc{}, 1, 1, nil, false},
	} {
		if got, ok := Put(x.l, x.d, x.self, x.room); ok != x.ok || !desctest.Same(got, x.want) {
			t.Error(i, x, got, ok)
		}
	}
}

func TestAnotherFilterIsNotNewer(t *testing.T) {
	l := []api.Desc{{Node: 1, Inc: 2, Age: 3, Filter: api.Filter{span(1, 1)}}}
	d := api.Desc{Node: 1, Inc: 2, Age: 3, Filter: api.Filter{span(2, 2)}}
	if got, ok := Put(l, d, 0, 2); ok || !desctest.Same(got, desctest.Copied(l)) {
		t.Error(got, ok)
	}
	d.Age = 2
	if got, ok := Put(l, d, 0, 2); !ok || !desctest.Same(got, []api.Desc{d}) {
		t.Error(got, ok)
	}
	d.Filter = nil
	if got, ok := Put(l, d, 0, 2); !ok || !desctest.Same(got, []api.Desc{bare(1, 2, 2)}) {
		t.Error(got, ok)
	}
}

func TestPutOfMany(t *testing.T) {
	for _, l := range views() {
		for _, self := range []uint8{0, 5} {
			for room := len(l); room <= 5; room++ {
				for node := range uint8(7) {
					for _, d := range []api.Desc{desc(node, 0, 0), desc(node, 1, 0), desc(node, 1, 3), desc(node, 1, 4), desc(node, 2, 4), bare(node, 2, 254), desc(node, 3, 255)} {
						want, done := put(l, d, self, room)
						if got, ok := Put(l, d, self, room); ok != done || !desctest.Same(got, want) {
							t.Fatal(l, d, self, room, got, ok)
						}
					}
				}
			}
		}
	}
}

func TestPutIntoLongViews(t *testing.T) {
	for _, l := range long() {
		for node := range 256 {
			d := desc(uint8(node), uint16(node%4), uint8(node/2))
			for _, room := range []int{len(l), len(l) + 1, math.MaxInt} {
				want, done := put(l, d, 100, room)
				if got, ok := Put(l, d, 100, room); ok != done || !desctest.Same(got, want) {
					t.Fatal(l, d, room, got, ok)
				}
			}
		}
	}
}

func TestNewerForEachPair(t *testing.T) {
	for _, inc := range incs[1:] {
		for _, age := range ages {
			for _, other := range incs {
				for _, old := range ages {
					l, d := []api.Desc{desc(3, inc, age)}, desc(3, other, old)
					newer := other > inc || other == inc && old < age
					want := l[0]
					if newer {
						want = d
					}
					if got, ok := Put(l, d, 0, 1); ok != newer || !desctest.Same(got, []api.Desc{want}) {
						t.Fatal(l, d, got, ok)
					}
				}
			}
		}
	}
}

// P9.4

func TestOlder(t *testing.T) {
	for i, x := range []struct{ l, want []api.Desc }{
		{nil, nil}, {[]api.Desc{}, nil},
		{[]api.Desc{{Node: 1, Inc: 1, Age: 4}, {Node: 3, Inc: 2, Age: 4, Filter: api.Filter{span(1, 2)}}}, []api.Desc{{Node: 1, Inc: 1, Age: 5}, {Node: 3, Inc: 2, Age: 5, Filter: api.Filter{span(1, 2)}}}},
		{[]api.Desc{bare(1, 1, 255)}, []api.Desc{bare(1, 1, 255)}}, {[]api.Desc{bare(1, 1, 254)}, []api.Desc{bare(1, 1, 255)}}, {[]api.Desc{bare(1, 1, 253)}, []api.Desc{bare(1, 1, 254)}}, {[]api.Desc{bare(1, 1, 0)}, []api.Desc{bare(1, 1, 1)}},
		{[]api.Desc{bare(1, 1, 255), bare(2, 1, 0), bare(9, 7, 254)}, []api.Desc{bare(1, 1, 255), bare(2, 1, 1), bare(9, 7, 255)}},
	} {
		if got := Older(x.l); !desctest.Same(got, x.want) {
			t.Error(i, x, got)
		}
	}
}

func TestOlderOfEachAge(t *testing.T) {
	for age := range 256 {
		got := Older([]api.Desc{bare(1, 1, uint8(age)), bare(2, 1, 9)})
		if int(got[0].Age) != min(age+1, 255) || got[1].Age != 10 {
			t.Error(age, got)
		}
	}
	for _, l := range append(views(), long()...) {
		if got := Older(l); !desctest.Same(got, older(l)) {
			t.Fatal(l, got)
		}
	}
}

func TestOldest(t *testing.T) {
	for i, x := range []struct {
		ages []uint8
		want int
	}{
		{nil, -1}, {[]uint8{0}, 0}, {[]uint8{255}, 0}, {[]uint8{4, 4}, 0}, {[]uint8{5, 5, 5}, 0}, {[]uint8{0, 0}, 0}, {[]uint8{3, 4}, 1}, {[]uint8{4, 3}, 0}, {[]uint8{0, 1}, 1},
		{[]uint8{1, 9, 9, 2}, 1}, {[]uint8{1, 8, 9, 9}, 2}, {[]uint8{1, 8, 2, 9}, 3}, {[]uint8{127, 128}, 1}, {[]uint8{128, 127}, 0}, {[]uint8{254, 255, 255}, 1}, {[]uint8{255, 254, 255}, 0}, {[]uint8{0, 0, 255}, 2},
	} {
		l := []api.Desc{}
		for j, age := range x.ages {
			l = append(l, desc(uint8(j+1), uint16(9-j), age))
		}
		if got := Oldest(l); got != x.want {
			t.Error(i, x, got)
		}
	}
	if got := Oldest([]api.Desc{}); got != -1 {
		t.Error(got)
	}
}

func TestOldestOfMany(t *testing.T) {
	for _, l := range append(views(), long()...) {
		want := -1
		for i := range l {
			first := true
			for j := range l {
				if l[j].Age > l[i].Age || l[j].Age == l[i].Age && j < i {
					first = false
				}
			}
			if first {
				want = i
			}
		}
		if got := Oldest(l); got != want {
			t.Fatal(l, got, want)
		}
	}
}

// P9.5

func TestResultsAreViews(t *testing.T) {
	draw := rand.New(rand.NewSource(10))
	for range 200 {
		self, room := uint8(draw.Intn(12)), draw.Intn(8)
		var l []api.Desc
		for range 80 {
			node := uint8(draw.Intn(12))
			switch draw.Intn(6) {
			case 0:
				l = Drop(l, node)
				if Find(l, node) >= 0 {
					t.Fatal("dropped", l, node)
				}
			case 1:
				l = Older(l)
			case 2:
				l = Copy(l)
			default:
				l, _ = Put(l, desc(node, uint16(draw.Intn(4)), uint8(draw.Intn(4))), self, room)
			}
			if !Right(l, self, room) || !desctest.IsView(l, self, room) {
				t.Fatal(l, self, room)
			}
		}
	}
}

func TestPuttingAgainChangesNothing(t *testing.T) {
	for _, l := range views() {
		for _, d := range l {
			if got, ok := Put(l, d, 0, 4); ok || !desctest.Same(got, l) {
				t.Fatal(l, d, got, ok)
			}
		}
		for node := range uint8(6) {
			for _, d := range []api.Desc{desc(node, 1, 2), desc(node, 3, 2), desc(node, 0, 2)} {
				once, _ := Put(l, d, 0, 4)
				if twice, ok := Put(once, d, 0, 4); ok || !desctest.Same(once, twice) {
					t.Fatal(l, d, once, twice, ok)
				}
			}
		}
	}
}

func TestTheNewerOneIsThere(t *testing.T) {
	for _, l := range [][]api.Desc{nil, {desc(1, 1, 4)}, {desc(5, 2, 0)}, {desc(1, 1, 4), desc(5, 2, 0)}} {
		for _, inc := range incs[1:] {
			for _, age := range ages {
				a := desc(3, inc, age)
				for _, b := range []api.Desc{desc(3, inc, 9), desc(3, 7, age), desc(3, 300, 0), desc(3, 1, 255)} {
					want := a
					if b.Inc > a.Inc || b.Inc == a.Inc && b.Age < a.Age {
						want = b
					}
					for _, pair := range [][]api.Desc{{a, b}, {b, a}} {
						got, _ := Put(l, pair[0], 0, 3)
						got, _ = Put(got, pair[1], 0, 3)
						at := Find(got, 3)
						if at < 0 || got[at].Inc != want.Inc || got[at].Age != want.Age || len(got) != len(l)+1 {
							t.Fatal(l, pair, got)
						}
					}
				}
			}
		}
	}
}

// R1

func TestOtherListsReturn(t *testing.T) {
	for _, l := range others() {
		for _, self := range []uint8{0, 3, 255} {
			for _, room := range rooms {
				for _, d := range []api.Desc{{}, desc(0, 1, 0), desc(3, 9, 9), desc(100, 2, 3), desc(255, api.MaxInc, 255)} {
					Put(l, d, self, room)
				}
			}
		}
		for node := range 256 {
			Find(l, uint8(node))
		}
		Drop(l, 0)
		Drop(l, 3)
		Drop(l, 100)
		Drop(l, 255)
		Older(l)
		Oldest(l)
	}
}

func TestViewsThatAreTooLong(t *testing.T) {
	for _, l := range long() {
		for _, room := range rooms {
			Put(l, desc(100, 1, 1), 3, room)
			Put(l, desc(7, 9, 1), 3, room)
		}
	}
}

// R3

// results are what all functions return that return lists, and what is asked for by the others.
func results(l []api.Desc, d api.Desc) [][]api.Desc {
	Same(d, d)
	Right(l, 0, 9)
	Find(l, d.Node)
	Oldest(l)
	wide, _ := Put(l, d, 0, len(l)+1)
	narrow, _ := Put(l, d, 0, len(l))
	self, _ := Put(l, d, d.Node, len(l)+1)
	return [][]api.Desc{wide, narrow, self, Copy(l), Drop(l, d.Node), Drop(l, 77), Older(l)}
}

func TestMemory(t *testing.T) {
	for _, l := range append(views()[:200], long()...) {
		for _, d := range []api.Desc{desc(1, 1, 3), desc(3, 3, 9), desc(6, 1, 1), desc(2, 0, 0), bare(0, 1, 0)} {
			fault := desctest.Fault([][]api.Desc{l, {d}}, func(args [][]api.Desc) [][]api.Desc { return results(args[0], args[1][0]) })
			if fault != "" {
				t.Fatal(fault, l, d)
			}
		}
	}
}
