package cyclon

import (
	"math"
	"math/rand"
	"slices"
	"testing"

	"grapevine/api"
	"grapevine/desctest"
)

var (
	span = desctest.Span
	full = desctest.Full
	bare = desctest.Bare
	list = desctest.List
)

// upTo is a list of the nodes from 0 on, so many.
func upTo(many int) []api.Desc {
	out := []api.Desc{}
	for node := range many {
		out = append(out, full(uint8(node), uint16(1+node%3), uint8(node*7)))
	}
	return out
}

// pick is the chapter's term by itself: what was picked is marked, and each draw counts over what is not.
func pick(l []api.Desc, many int, not uint8, draws []uint32) []api.Desc {
	gone, left, out := make([]bool, len(l)), len(l), []api.Desc{}
	for i := range l {
		if l[i].Node == not {
			gone[i] = true
			left--
		}
	}
	for n := 0; n < len(draws) && n < many && left > 0; n++ {
		skip := int64(draws[n]) % int64(left)
		for i := range l {
			if gone[i] {
				continue
			}
			if skip == 0 {
				gone[i] = true
				left--
				out = append(out, l[i])
				break
			}
			skip--
		}
	}
	return out
}

// merge is the chapter's term by itself: each of sent is looked at anew, and is marked when it was dropped.
func merge(l, got, sent []api.Desc, self uint8, room int) []api.Desc {
	out, dropped := desctest.Copied(l), make([]bool, len(sent))
	for _, d := range got {
		if desctest.Accepts(out, d, self, room) {
			out = desctest.With(out, d)
			continue
		}
		if d.Node == self || d.Inc < 1 || desctest.Find(out, d.Node) >= 0 {
			continue
		}
		for i, s := range sent {
			if !dropped[i] && desctest.Find(out, s.Node) >= 0 && desctest.Find(got, s.Node) < 0 {
				dropped[i] = true
				out = desctest.With(desctest.Without(out, s.Node), d)
				break
			}
		}
	}
	return out
}

func someDraws(draw *rand.Rand, many int) []uint32 {
	out := []uint32{}
	for range draw.Intn(many + 1) {
		out = append(out, draw.Uint32())
	}
	return out
}

// P10.1

func TestPick(t *testing.T) {
	four := list(1, 2, 3, 5)
	top := uint32(math.MaxUint32) // 4294967295: remainder 3 by 4, 0 by 3, 1 by 2
	for i, x := range []struct {
		l     []api.Desc
		many  int
		not   uint8
		draws []uint32
		want  []api.Desc
	}{
		{list(1, 2, 3), 1, 2, []uint32{3}, list(3)},
		{four, 2, 9, []uint32{1, 1}, list(2, 3)}, {four, 2, 9, []uint32{3, 0}, list(5, 1)}, {four, 2, 9, []uint32{2, 2}, list(3, 5)}, {four, 2, 9, []uint32{0, 3}, list(1, 2)},
		{four, 2, 9, []uint32{1, 1, 1, 1}, list(2, 3)}, {four, 1, 9, []uint32{7, 7}, list(5)},
		{four, 4, 9, []uint32{0, 0, 0, 0}, four}, {four, 4, 9, []uint32{3, 2, 1, 0}, list(5, 3, 2, 1)}, {four, 4, 9, []uint32{4, 3, 2, 1}, four}, {four, 4, 9, []uint32{7, 5, 3, 1}, list(5, 3, 2, 1)}, {four, 4, 9, []uint32{1, 2, 1, 2}, list(2, 5, 3, 1)},
		{four, 4, 9, []uint32{top, top, top, top}, list(5, 1, 3, 2)}, {four, 2, 9, []uint32{1 << 31, 1<<31 + 1}, list(1, 2)}, {four, 1, 9, []uint32{1<<31 + 1}, list(2)},

		{four, 4, 1, []uint32{0, 0, 0, 0}, list(2, 3, 5)}, {four, 3, 2, []uint32{1, 1, 1}, list(3, 5, 1)}, {four, 1, 5, []uint32{3}, list(1)}, {four, 9, 3, []uint32{5, 5, 5, 5}, list(5, 2, 1)}, {four, 4, 0, []uint32{0, 0, 0, 0}, four}, {list(0, 1), 2, 0, []uint32{1, 1}, list(1)}, {list(254, 255), 2, 255, []uint32{1, 1}, list(254)},

		{four, 0, 9, []uint32{1, 1}, nil}, {four, -1, 9, []uint32{1, 1}, nil}, {four, math.MinInt, 9, []uint32{1, 1}, nil},
		{four, 2, 9, nil, nil}, {four, 2, 9, []uint32{}, nil}, {four, 3, 9, []uint32{2}, list(3)}, {four, 3, 9, []uint32{2, 0}, list(3, 1)},
		{four, 5, 9, []uint32{0, 0, 0, 0, 0}, four}, {four, math.MaxInt, 9, []uint32{0, 0, 0, 0, 0, 9}, four}, {nil, 2, 9, []uint32{1, 1}, nil}, {[]api.Desc{}, 2, 9, []uint32{1, 1}, nil}, {list(9), 2, 9, []uint32{1, 1}, nil}, {list(8), 2, 9, []uint32{1, 1}, list(8)},
	} {
		if got := Pick(x.l, x.many, x.not, x.draws); !desctest.Same(got, x.want) {
			t.Error(i, x, got)
		}
	}
}

func TestWhatIsPickedIsWhole(t *testing.T) {
	l := []api.Desc{{Node: 1, Inc: 7, Age: 255, Filter: api.Filter{span(-1, 1)}}, {Node: 4, Inc: api.MaxInc}, {Node: 6, Inc: 1, Filter: api.Filter{span(3, 2), span(5, 5)}}}
	got := Pick(l, 3, 9, []uint32{2, 0, 0})
	if !desctest.Same(got, []api.Desc{l[2], l[0], l[1]}) {
		t.Error(got)
	}
}

func TestPickOfSmallLists(t *testing.T) {
	for many := -1; many <= 5; many++ {
		for size := range 5 {
			l := upTo(size)
			for not := range uint8(6) {
				for code := range 5 * 5 * 5 * 5 {
					draws := []uint32{uint32(code % 5), uint32(code / 5 % 5), uint32(code / 25 % 5), uint32(code / 125)}
					for _, some := range [][]uint32{draws, draws[:code%4]} {
						if got := Pick(l, many, not, some); !desctest.Same(got, pick(l, many, not, some)) {
							t.Fatal(l, many, not, some, got)
						}
					}
				}
			}
		}
	}
}

func TestPickOfLongLists(t *testing.T) {
	draw := rand.New(rand.NewSource(1))
	for range 400 {
		l, many, not, draws := upTo(draw.Intn(256)), draw.Intn(260), uint8(draw.Intn(256)), someDraws(draw, 300)
		if got := Pick(l, many, not, draws); !desctest.Same(got, pick(l, many, not, draws)) {
			t.Fatal(l, many, not, draws, got)
		}
	}
}

// P10.2

func TestAsk(t *testing.T) {
	three := []api.Desc{full(1, 1, 1), full(2, 1, 5), full(3, 1, 0)}
	me := full(9, 3, 0)
	for i, x := range []struct {
		l     []api.Desc
		many  int
		draws []uint32
		node  uint8
		sent  []api.Desc
	}{
		{three, 2, []uint32{3}, 2, []api.Desc{me, three[2]}},
		{three, 2, []uint32{2, 1}, 2, []api.Desc{me, three[0]}}, {three, 3, []uint32{3, 5}, 2, []api.Desc{me, three[2], three[0]}}, {three, 3, []uint32{0, 5}, 2, []api.Desc{me, three[0], three[2]}},
		{three, 1, []uint32{3}, 2, []api.Desc{me}}, {three, 2, nil, 2, []api.Desc{me}}, {three, 3, []uint32{1}, 2, []api.Desc{me, three[2]}}, {three, 9, []uint32{1, 1, 1, 1}, 2, []api.Desc{me, three[2], three[0]}}, {three, math.MaxInt, []uint32{0, 0, 0}, 2, []api.Desc{me, three[0], three[2]}},
		{three[:1], 2, []uint32{3}, 1, []api.Desc{me}}, {three[2:], 1, []uint32{3}, 3, []api.Desc{me}},
		{list(1, 2, 3), 2, []uint32{0}, 1, []api.Desc{me, full(2, 1, 4)}}, {[]api.Desc{full(1, 1, 3), full(4, 1, 4), full(6, 2, 4)}, 3, []uint32{1, 0}, 4, []api.Desc{me, full(6, 2, 4), full(1, 1, 3)}},
		{[]api.Desc{full(1, 1, 0), full(255, 2, 255)}, 3, []uint32{1, 0}, 255, []api.Desc{me, full(1, 1, 0)}}, {[]api.Desc{full(0, 1, 0)}, 3, []uint32{1}, 0, []api.Desc{me}},
	} {
		node, sent, ok := Ask(x.l, me, x.many, x.draws)
		if node != x.node || !desctest.Same(sent, x.sent) || !ok {
			t.Error(i, x, node, sent, ok)
		}
	}
}

func TestAskNobody(t *testing.T) {
	three := []api.Desc{full(1, 1, 1), full(2, 1, 5), full(3, 1, 0)}
	for i, x := range []struct {
		l    []api.Desc
		many int
	}{
		{nil, 2}, {[]api.Desc{}, 2}, {three[:0], 9}, {nil, 0}, {three, 0}, {three, -1}, {three, math.MinInt}, {nil, math.MinInt},
	} {
		node, sent, ok := Ask(x.l, full(9, 1, 0), x.many, []uint32{3, 3})
		if node != 0 || len(sent) != 0 || ok {
			t.Error(i, x, node, sent, ok)
		}
	}
}

func TestAskSendsItselfYoung(t *testing.T) {
	for _, me := range []api.Desc{full(9, 2, 0), full(9, 1, 1), full(0, api.MaxInc, 255), bare(9, 2, 8), {}} {
		want := me
		want.Age = 0
		_, sent, ok := Ask(list(1, 2, 3), me, 2, []uint32{1})
		if !ok || !desctest.Same(sent, []api.Desc{want, full(3, 1, 4)}) {
			t.Error(me, sent, ok)
		}
	}
}

func TestAskOfDrawnViews(t *testing.T) {
	draw := rand.New(rand.NewSource(2))
	for range 2000 {
		room := draw.Intn(12)
		l, me, many, draws := desctest.View(draw, 5, room, 12), full(5, 2, 9), draw.Intn(14)-1, someDraws(draw, 14)
		node, sent, ok := Ask(l, me, many, draws)
		if len(l) == 0 || many < 1 {
			if node != 0 || len(sent) != 0 || ok {
				t.Fatal(l, many, node, sent, ok)
			}
			continue
		}
		oldest := slices.MaxFunc(l, func(a, b api.Desc) int { return int(a.Age) - int(b.Age) }) // the first one of several
		want := append([]api.Desc{full(5, 2, 9)}, pick(l, many-1, oldest.Node, draws)...)
		want[0].Age = 0
		if node != oldest.Node || !desctest.Same(sent, want) || !ok {
			t.Fatal(l, many, draws, node, sent, ok)
		}
	}
}

// P10.3

func TestMerge(t *testing.T) {
	three := []api.Desc{full(1, 1, 1), full(2, 1, 5), full(3, 1, 0)}
	sent := []api.Desc{full(9, 1, 0), full(3, 1, 0)}
	for i, x := range []struct {
		l, got, sent []api.Desc
		room         int
		want         []api.Desc
	}{
		{three, list(4, 5), sent, 3, []api.Desc{three[0], three[1], full(4, 1, 4)}},
		{three, list(4, 5), sent, 4, []api.Desc{three[0], three[1], full(4, 1, 4), full(5, 1, 4)}},
		{three, list(4, 5), sent, 5, append(desctest.Copied(three), list(4, 5)...)}, {three, list(4), sent, math.MaxInt, append(desctest.Copied(three), list(4)...)},
		{three, list(5, 4), sent, 3, []api.Desc{three[0], three[1], full(5, 1, 4)}},
		{three, list(4, 5), nil, 3, three}, {three, list(4, 5), list(9), 3, three}, {three, nil, sent, 3, three}, {three, nil, nil, 9, three}, {nil, nil, sent, 3, nil},
		{nil, list(4, 2), sent, 3, list(2, 4)}, {nil, list(4, 2, 7), sent, 2, list(2, 4)}, {nil, list(4, 2, 7), list(4, 2), 2, list(2, 4)}, {nil, list(4), sent, 0, nil}, {nil, list(4), sent, -1, nil}, {nil, list(4), sent, math.MinInt, nil},
		{three, list(4, 5, 6, 7), list(1, 2, 3), 3, list(4, 5, 6)}, {three, list(4, 5), list(3, 1, 2), 3, []api.Desc{three[1], full(4, 1, 4), full(5, 1, 4)}}, {three, list(0, 4), list(2, 1), 3, []api.Desc{full(0, 1, 4), three[2], full(4, 1, 4)}},
	} {
		if got := Merge(x.l, x.got, x.sent, 9, x.room); !desctest.Same(got, x.want) {
			t.Error(i, x, got)
		}
	}
}

func TestNewerOnesTakeTheirPlace(t *testing.T) {
	l := []api.Desc{full(1, 2, 4), full(2, 2, 4)}
	for i, x := range []struct{ d, want api.Desc }{
		{full(2, 2, 3), full(2, 2, 3)}, {full(2, 3, 255), full(2, 3, 255)}, {bare(2, 2, 3), bare(2, 2, 3)},
		{full(2, 2, 4), full(2, 2, 4)}, {bare(2, 2, 4), full(2, 2, 4)}, {full(2, 2, 5), full(2, 2, 4)}, {full(2, 1, 0), full(2, 2, 4)}, {full(2, 0, 0), full(2, 2, 4)},
	} {
		for _, room := range []int{2, 3} {
			// What was sent may not make room for a node that is there.
			if got := Merge(l, []api.Desc{x.d}, list(9, 1, 2), 9, room); !desctest.Same(got, []api.Desc{l[0], x.want}) {
				t.Error(i, x, room, got)
			}
		}
	}
}

func TestNothingIsDroppedForWhatMayNotBe(t *testing.T) {
	l := list(1, 2, 3)
	for i, got := range [][]api.Desc{{full(9, 5, 0)}, {full(4, 0, 0)}, {bare(4, 0, 0), full(9, 1, 0)}, {full(1, 1, 4)}, {full(1, 0, 0), full(2, 1, 9)}, {{}}} {
		for _, room := range []int{3, 4} {
			if out := Merge(l, got, list(3, 2), 9, room); !desctest.Same(out, l) {
				t.Error(i, got, room, out)
			}
		}
	}
	// And it is still there to be dropped for the next one.
	if out := Merge(l, []api.Desc{full(9, 5, 0), full(4, 0, 0), full(1, 1, 9), full(5, 1, 4)}, list(3, 2), 9, 3); !desctest.Same(out, list(1, 2, 5)) {
		t.Error(out)
	}
}

func TestWhatWasGotIsNotDropped(t *testing.T) {
	l := list(1, 2, 3)
	for i, x := range []struct{ got, sent, want []api.Desc }{
		{[]api.Desc{full(4, 1, 4), full(3, 1, 4)}, list(3, 2), list(1, 3, 4)},
		{[]api.Desc{full(3, 1, 4), full(4, 1, 4)}, list(3, 2), list(1, 3, 4)},
		{[]api.Desc{full(4, 1, 4), full(3, 1, 9)}, list(3), l}, {[]api.Desc{full(4, 1, 4), full(3, 0, 0)}, list(3), l}, {[]api.Desc{full(3, 0, 0), full(4, 1, 4)}, list(3), l},
		{[]api.Desc{full(4, 1, 4), full(3, 1, 2)}, list(3), []api.Desc{full(1, 1, 4), full(2, 1, 4), full(3, 1, 2)}},
		{[]api.Desc{full(4, 1, 4), full(5, 1, 4)}, list(3, 4, 5), list(1, 2, 4)}, {[]api.Desc{full(4, 1, 4), full(5, 1, 4), full(4, 1, 3)}, list(3, 4, 5), []api.Desc{full(1, 1, 4), full(2, 1, 4), full(4, 1, 3)}},
		{[]api.Desc{full(9, 1, 0), full(4, 1, 4)}, list(9, 3), list(1, 2, 4)},
	} {
		if got := Merge(l, x.got, x.sent, 9, 3); !desctest.Same(got, x.want) {
			t.Error(i, x, got)
		}
	}
}

func TestSentInItsOrder(t *testing.T) {
	l := list(1, 2, 3, 4)
	for i, x := range []struct {
		got, sent, want []api.Desc
	}{
		{list(6), list(4, 1), list(1, 2, 3, 6)}, {list(6), list(1, 4), list(2, 3, 4, 6)}, {list(6), list(7, 9, 0, 2, 1), list(1, 3, 4, 6)},
		{list(6, 7), list(4, 1), list(2, 3, 6, 7)}, {list(6, 7), list(4, 4), list(1, 2, 3, 6)}, {list(6, 7), list(4, 4, 8, 4, 3), list(1, 2, 6, 7)}, {list(6, 7, 8), list(4, 1), list(2, 3, 6, 7)}, {list(6, 6), list(4, 1), list(1, 2, 3, 6)},
		{[]api.Desc{full(6, 1, 4), full(6, 1, 3), full(7, 1, 4)}, list(4, 1), []api.Desc{full(2, 1, 4), full(3, 1, 4), full(6, 1, 3), full(7, 1, 4)}},
		{list(6), []api.Desc{full(2, 0, 0), full(1, 1, 4)}, list(1, 3, 4, 6)}, {list(6), []api.Desc{full(2, 7, 9)}, list(1, 3, 4, 6)}, {list(6), []api.Desc{bare(3, 1, 4)}, list(1, 2, 4, 6)},
	} {
		if got := Merge(l, x.got, x.sent, 9, 4); !desctest.Same(got, x.want) {
			t.Error(i, x, got)
		}
	}
}

func TestMergeOfDrawnViews(t *testing.T) {
	draw := rand.New(rand.NewSource(3))
	for range 20000 {
		self, room, bound := uint8(draw.Intn(9)), draw.Intn(8), 3+draw.Intn(9)
		l, got, sent := desctest.View(draw, self, room, bound), desctest.Any(draw, 6, bound), desctest.Any(draw, 6, bound)
		if out := Merge(l, got, sent, self, room); !desctest.Same(out, merge(l, got, sent, self, room)) {
			t.Fatal(l, got, sent, self, room, out)
		}
	}
}

func TestMergeOfLongLists(t *testing.T) {
	draw := rand.New(rand.NewSource(4))
	for range 60 {
		self, room := uint8(draw.Intn(256)), draw.Intn(256)
		l, got, sent := desctest.View(draw, self, room, 256), desctest.Any(draw, 255, 256), desctest.Any(draw, 255, 256)
		if out := Merge(l, got, sent, self, room); !desctest.Same(out, merge(l, got, sent, self, room)) {
			t.Fatal(l, got, sent, self, room, out)
		}
	}
}

// P10.4

func TestConsequences(t *testing.T) {
	draw := rand.New(rand.NewSource(5))
	for range 20000 {
		self, room, bound := uint8(draw.Intn(9)), draw.Intn(8), 3+draw.Intn(9)
		l, got, sent := desctest.View(draw, self, room, bound), desctest.Any(draw, 6, bound), desctest.Any(draw, 6, bound)
		out := Merge(l, got, sent, self, room)
		if !desctest.IsView(out, self, room) {
			t.Fatal("no view", l, got, sent, self, room, out)
		}
		spare := len(out) < room
		for _, d := range out {
			if desctest.Find(l, d.Node) < 0 && desctest.Find(got, d.Node) < 0 {
				t.Fatal("from nowhere", l, got, sent, self, room, out)
			}
			spare = spare || desctest.Find(sent, d.Node) >= 0 && desctest.Find(got, d.Node) < 0
		}
		for _, d := range got {
			if spare && d.Node != self && d.Inc > 0 && desctest.Find(out, d.Node) < 0 {
				t.Fatal("got, and lost", l, got, sent, self, room, out)
			}
		}
		for _, d := range l {
			if desctest.Find(out, d.Node) < 0 && desctest.Find(sent, d.Node) < 0 {
				t.Fatal("dropped without being sent", l, got, sent, self, room, out)
			}
		}
	}
}

// Two nodes that shuffle with each other: what is asked for, picked and merged fits together.
func TestShuffle(t *testing.T) {
	a, b := list(1, 2, 3, 4), list(0, 5, 6)
	node, sent, ok := Ask(a, full(0, 1, 0), 3, []uint32{2, 0})
	if node != 1 || !ok || !desctest.Same(sent, []api.Desc{full(0, 1, 0), full(4, 1, 4), full(2, 1, 4)}) {
		t.Fatal(node, sent, ok)
	}
	back := Pick(b, 3, 0, []uint32{1, 0, 0})
	if !desctest.Same(back, list(6, 5)) {
		t.Fatal(back)
	}
	if got := Merge(b, sent, back, 1, 3); !desctest.Same(got, []api.Desc{full(0, 1, 0), full(2, 1, 4), full(4, 1, 4)}) {
		t.Error(got)
	}
	if got := Merge(a, back, sent, 0, 4); !desctest.Same(got, list(1, 3, 5, 6)) {
		t.Error(got)
	}
}

// R1

func TestOtherListsReturn(t *testing.T) {
	draw := rand.New(rand.NewSource(6))
	rooms := []int{math.MinInt, -1, 0, 1, 3, 255, 256, math.MaxInt}
	for range 300 {
		l, got, sent := desctest.Any(draw, 30, 256), desctest.Any(draw, 30, 256), desctest.Any(draw, 30, 256)
		for _, room := range rooms {
			Merge(l, got, sent, uint8(draw.Intn(256)), room)
			Merge(nil, l, sent, 0, room)
			Merge(l, nil, nil, 0, room)
			Ask(l, api.Desc{}, room, someDraws(draw, 40))
			Pick(l, room, uint8(draw.Intn(256)), someDraws(draw, 40))
		}
	}
	many := slices.Repeat(upTo(256), 4)
	Merge(many, many, many, 3, 900)
	Merge(many, many, many, 3, -1)
	Ask(many, many[0], len(many), make([]uint32, 2000))
	Pick(many, len(many), 3, make([]uint32, 2000))
}

func TestThatNodeIsNowherePicked(t *testing.T) {
	if got := Pick(list(3, 1, 3, 2, 3), 5, 3, []uint32{0, 0, 0, 0, 0}); !desctest.Same(got, list(1, 2)) {
		t.Error(got)
	}
}

// R3

// results are the lists that all functions return for these.
func results(l, got, sent []api.Desc, self api.Desc, draws []uint32) [][]api.Desc {
	_, asked, _ := Ask(l, self, 3, draws)
	_, alone, _ := Ask(l, self, 1, draws)
	return [][]api.Desc{
		asked, alone, Pick(l, len(l), 0, draws), Pick(l, 2, 1, draws), Pick(l, 0, 1, draws),
		Merge(l, got, sent, self.Node, len(l)), Merge(l, got, sent, self.Node, len(l)+len(got)), Merge(l, nil, sent, self.Node, len(l)), Merge(l, got, nil, self.Node, len(l)), Merge(nil, got, sent, self.Node, 3),
	}
}

func TestMemory(t *testing.T) {
	draw := rand.New(rand.NewSource(7))
	for range 300 {
		draws := append(someDraws(draw, 9), 1, 2)
		draws = draws[:len(draws)-2]
		were := slices.Clone(draws[:cap(draws)])
		args := [][]api.Desc{desctest.View(draw, 5, 6, 10), desctest.Any(draw, 6, 10), desctest.Any(draw, 6, 10), {full(5, 2, 9)}}
		fault := desctest.Fault(args, func(args [][]api.Desc) [][]api.Desc {
			return results(args[0], args[1], args[2], args[3][0], draws)
		})
		if fault != "" {
			t.Fatal(fault, args, draws)
		}
		if !slices.Equal(draws[:cap(draws)], were) {
			t.Fatal("draws were changed", were, draws)
		}
	}
}
