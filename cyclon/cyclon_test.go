package cyclon

import (
	"math"
	"math/rand"
	"slices"
	"testing"

	"grapevine/api"
)

func span(from, to int32) api.Span {
	return api.Span{From: from, To: to}
}

// full is a descriptor with a filter that tells it from others.
func full(node uint8, inc uint16, age uint8) api.Desc {
	return api.Desc{Node: node, Inc: inc, Age: age, Filter: api.Filter{span(int32(node), int32(inc)), span(int32(age), 7)}}
}

// bare is a descriptor without a filter.
func bare(node uint8, inc uint16, age uint8) api.Desc {
	return api.Desc{Node: node, Inc: inc, Age: age}
}

// list is descriptors of these nodes, of incarnation 1 and age 4.
func list(nodes ...uint8) []api.Desc {
	out := []api.Desc{}
	for _, node := range nodes {
		out = append(out, full(node, 1, 4))
	}
	return out
}

// upTo is a list of the nodes from 0 on, so many.
func upTo(many int) []api.Desc {
	out := []api.Desc{}
	for node := range many {
		out = append(out, full(uint8(node), uint16(1+node%3), uint8(node*7)))
	}
	return out
}

func sameDesc(a, b api.Desc) bool {
	return a.Node == b.Node && a.Inc == b.Inc && a.Age == b.Age && slices.Equal(a.Filter, b.Filter)
}

func sameList(a, b []api.Desc) bool {
	return slices.EqualFunc(a, b, sameDesc)
}

// copied is a list in memory of its own, made without the packages.
func copied(l []api.Desc) []api.Desc {
	out := []api.Desc{}
	for _, d := range l {
		d.Filter = append(api.Filter{}, d.Filter...)
		out = append(out, d)
	}
	return out
}

// find is where the node stands in l, or -1.
func find(l []api.Desc, node uint8) int {
	return slices.IndexFunc(l, func(d api.Desc) bool { return d.Node == node })
}

// without is l without the node.
func without(l []api.Desc, node uint8) []api.Desc {
	return slices.DeleteFunc(copied(l), func(d api.Desc) bool { return d.Node == node })
}

// with is l with d, in the place of that of its node or where it belongs.
func with(l []api.Desc, d api.Desc) []api.Desc {
	out := append(without(l, d.Node), d)
	slices.SortFunc(out, func(a, b api.Desc) int { return int(a.Node) - int(b.Node) })
	return out
}

// isView is the term of layer 9 by itself.
func isView(l []api.Desc, self uint8, room int) bool {
	for i := range l {
		if l[i].Node == self || l[i].Inc < 1 || i > 0 && l[i-1].Node >= l[i].Node {
			return false
		}
	}
	return room >= 0 && len(l) <= room
}

// pick is the chapter's term by itself: what was picked is marked, and each draw counts over what is not.
func pick(l []api.Desc, many int, not uint8, draws []uint32) []api.Desc {
	gone, left, out := make([]bool, len(l)), len(l), []api.Desc{}
	for i := range l {
		if l[i].Node == not {
			gone[i] = true
			left--
		}
	}
	for n := 0; n < len(draws) && n < many && left > 0; n++ {
		skip := int64(draws[n]) % int64(left)
		for i := range l {
			if gone[i] {
				continue
			}
			if skip == 0 {
				gone[i] = true
				left--
				out = append(out, l[i])
				break
			}
			skip--
		}
	}
	return out
}

// accepts is what desc.Put does, by itself.
func accepts(l []api.Desc, d api.Desc, self uint8, room int) bool {
	if d.Node == self || d.Inc == 0 {
		return false
	}
	if at := find(l, d.Node); at >= 0 {
		return d.Inc > l[at].Inc || d.Inc == l[at].Inc && d.Age < l[at].Age
	}
	return len(l) < room
}

// merge is the chapter's term by itself: each of sent is looked at anew, and is marked when it was dropped.
func merge(l, got, sent []api.Desc, self uint8, room int) []api.Desc {
	out, dropped := copied(l), make([]bool, len(sent))
	for _, d := range got {
		if accepts(out, d, self, room) {
			out = with(out, d)
			continue
		}
		if d.Node == self || d.Inc < 1 || find(out, d.Node) >= 0 {
			continue
		}
		for i, s := range sent {
			if !dropped[i] && find(out, s.Node) >= 0 && find(got, s.Node) < 0 {
				dropped[i] = true
				out = with(without(out, s.Node), d)
				break
			}
		}
	}
	return out
}

// someView is a drawn view for self and that room of nodes below the bound.
func someView(draw *rand.Rand, self uint8, room, bound int) []api.Desc {
	out := []api.Desc{}
	for _, node := range draw.Perm(bound)[:min(room, bound)] {
		if node != int(self) && draw.Intn(6) > 0 {
			out = append(out, full(uint8(node), uint16(1+draw.Intn(3)), uint8(draw.Intn(4))))
		}
	}
	slices.SortFunc(out, func(a, b api.Desc) int { return int(a.Node) - int(b.Node) })
	return out
}

// someList is a drawn list of any descriptors: in no order, some nodes several times, and some without an incarnation.
func someList(draw *rand.Rand, many, bound int) []api.Desc {
	out := []api.Desc{}
	for range draw.Intn(many + 1) {
		d := full(uint8(draw.Intn(bound)), uint16(draw.Intn(4)), uint8(draw.Intn(4)))
		if draw.Intn(8) == 0 {
			d.Filter = nil
		}
		out = append(out, d)
	}
	return out
}

func someDraws(draw *rand.Rand, many int) []uint32 {
	out := []uint32{}
	for range draw.Intn(many + 1) {
		out = append(out, draw.Uint32())
	}
	return out
}

// P10.1

func TestPick(t *testing.T) {
	four := list(1, 2, 3, 5)
	top := uint32(math.MaxUint32) // 4294967295: remainder 3 by 4, 0 by 3, 1 by 2
	for i, x := range []struct {
		l     []api.Desc
		many  int
		not   uint8
		draws []uint32
		want  []api.Desc
	}{
		{list(1, 2, 3), 1, 2, []uint32{3}, list(3)},
		{four, 2, 9, []uint32{1, 1}, list(2, 3)}, {four, 2, 9, []uint32{3, 0}, list(5, 1)}, {four, 2, 9, []uint32{2, 2}, list(3, 5)}, {four, 2, 9, []uint32{0, 3}, list(1, 2)},
		{four, 2, 9, []uint32{1, 1, 1, 1}, list(2, 3)}, {four, 1, 9, []uint32{7, 7}, list(5)},
		{four, 4, 9, []uint32{0, 0, 0, 0}, four}, {four, 4, 9, []uint32{3, 2, 1, 0}, list(5, 3, 2, 1)}, {four, 4, 9, []uint32{4, 3, 2, 1}, four}, {four, 4, 9, []uint32{7, 5, 3, 1}, list(5, 3, 2, 1)}, {four, 4, 9, []uint32{1, 2, 1, 2}, list(2, 5, 3, 1)},
		{four, 4, 9, []uint32{top, top, top, top}, list(5, 1, 3, 2)}, {four, 2, 9, []uint32{1 << 31, 1<<31 + 1}, list(1, 2)}, {four, 1, 9, []uint32{1<<31 + 1}, list(2)},

		{four, 4, 1, []uint32{0, 0, 0, 0}, list(2, 3, 5)}, {four, 3, 2, []uint32{1, 1, 1}, list(3, 5, 1)}, {four, 1, 5, []uint32{3}, list(1)}, {four, 9, 3, []uint32{5, 5, 5, 5}, list(5, 2, 1)}, {four, 4, 0, []uint32{0, 0, 0, 0}, four}, {list(0, 1), 2, 0, []uint32{1, 1}, list(1)}, {list(254, 255), 2, 255, []uint32{1, 1}, list(254)},

		{four, 0, 9, []uint32{1, 1}, nil}, {four, -1, 9, []uint32{1, 1}, nil}, {four, math.MinInt, 9, []uint32{1, 1}, nil},
		{four, 2, 9, nil, nil}, {four, 2, 9, []uint32{}, nil}, {four, 3, 9, []uint32{2}, list(3)}, {four, 3, 9, []uint32{2, 0}, list(3, 1)},
		{four, 5, 9, []uint32{0, 0, 0, 0, 0}, four}, {four, math.MaxInt, 9, []uint32{0, 0, 0, 0, 0, 9}, four}, {nil, 2, 9, []uint32{1, 1}, nil}, {[]api.Desc{}, 2, 9, []uint32{1, 1}, nil}, {list(9), 2, 9, []uint32{1, 1}, nil}, {list(8), 2, 9, []uint32{1, 1}, list(8)},
	} {
		if got := Pick(x.l, x.many, x.not, x.draws); !sameList(got, x.want) {
			t.Error(i, x, got)
		}
	}
}

func TestWhatIsPickedIsWhole(t *testing.T) {
	l := []api.Desc{{Node: 1, Inc: 7, Age: 255, Filter: api.Filter{span(-1, 1)}}, {Node: 4, Inc: api.MaxInc}, {Node: 6, Inc: 1, Filter: api.Filter{span(3, 2), span(5, 5)}}}
	got := Pick(l, 3, 9, []uint32{2, 0, 0})
	if !sameList(got, []api.Desc{l[2], l[0], l[1]}) {
		t.Error(got)
	}
}

func TestPickOfSmallLists(t *testing.T) {
	for many := -1; many <= 5; many++ {
		for size := range 5 {
			l := upTo(size)
			for not := range uint8(6) {
				for code := range 5 * 5 * 5 * 5 {
					draws := []uint32{uint32(code % 5), uint32(code / 5 % 5), uint32(code / 25 % 5), uint32(code / 125)}
					for _, some := range [][]uint32{draws, draws[:code%4]} {
						if got := Pick(l, many, not, some); !sameList(got, pick(l, many, not, some)) {
							t.Fatal(l, many, not, some, got)
						}
					}
				}
			}
		}
	}
}

func TestPickOfLongLists(t *testing.T) {
	draw := rand.New(rand.NewSource(1))
	for range 400 {
		l, many, not, draws := upTo(draw.Intn(256)), draw.Intn(260), uint8(draw.Intn(256)), someDraws(draw, 300)
		if got := Pick(l, many, not, draws); !sameList(got, pick(l, many, not, draws)) {
			t.Fatal(l, many, not, draws, got)
		}
	}
}

// P10.2

func TestAsk(t *testing.T) {
	three := []api.Desc{full(1, 1, 1), full(2, 1, 5), full(3, 1, 0)}
	me := full(9, 3, 0)
	for i, x := range []struct {
		l     []api.Desc
		many  int
		draws []uint32
		node  uint8
		sent  []api.Desc
	}{
		{three, 2, []uint32{3}, 2, []api.Desc{me, three[2]}},
		{three, 2, []uint32{2, 1}, 2, []api.Desc{me, three[0]}}, {three, 3, []uint32{3, 5}, 2, []api.Desc{me, three[2], three[0]}}, {three, 3, []uint32{0, 5}, 2, []api.Desc{me, three[0], three[2]}},
		{three, 1, []uint32{3}, 2, []api.Desc{me}}, {three, 2, nil, 2, []api.Desc{me}}, {three, 3, []uint32{1}, 2, []api.Desc{me, three[2]}}, {three, 9, []uint32{1, 1, 1, 1}, 2, []api.Desc{me, three[2], three[0]}}, {three, math.MaxInt, []uint32{0, 0, 0}, 2, []api.Desc{me, three[0], three[2]}},
		{three[:1], 2, []uint32{3}, 1, []api.Desc{me}}, {three[2:], 1, []uint32{3}, 3, []api.Desc{me}},
		{list(1, 2, 3), 2, []uint32{0}, 1, []api.Desc{me, full(2, 1, 4)}}, {[]api.Desc{full(1, 1, 3), full(4, 1, 4), full(6, 2, 4)}, 3, []uint32{1, 0}, 4, []api.Desc{me, full(6, 2, 4), full(1, 1, 3)}},
		{[]api.Desc{full(1, 1, 0), full(255, 2, 255)}, 3, []uint32{1, 0}, 255, []api.Desc{me, full(1, 1, 0)}}, {[]api.Desc{full(0, 1, 0)}, 3, []uint32{1}, 0, []api.Desc{me}},
	} {
		node, sent, ok := Ask(x.l, me, x.many, x.draws)
		if node != x.node || !sameList(sent, x.sent) || !ok {
			t.Error(i, x, node, sent, ok)
		}
	}
}

func TestAskNobody(t *testing.T) {
	three := []api.Desc{full(1, 1, 1), full(2, 1, 5), full(3, 1, 0)}
	for i, x := range []struct {
		l    []api.Desc
		many int
	}{
		{nil, 2}, {[]api.Desc{}, 2}, {three[:0], 9}, {nil, 0}, {three, 0}, {three, -1}, {three, math.MinInt}, {nil, math.MinInt},
	} {
		node, sent, ok := Ask(x.l, full(9, 1, 0), x.many, []uint32{3, 3})
		if node != 0 || len(sent) != 0 || ok {
			t.Error(i, x, node, sent, ok)
		}
	}
}

func TestAskSendsItselfYoung(t *testing.T) {
	for _, me := range []api.Desc{full(9, 2, 0), full(9, 1, 1), full(0, api.MaxInc, 255), bare(9, 2, 8), {}} {
		want := me
		want.Age = 0
		_, sent, ok := Ask(list(1, 2, 3), me, 2, []uint32{1})
		if !ok || !sameList(sent, []api.Desc{want, full(3, 1, 4)}) {
			t.Error(me, sent, ok)
		}
	}
}

func TestAskOfDrawnViews(t *testing.T) {
	draw := rand.New(rand.NewSource(2))
	for range 2000 {
		room := draw.Intn(12)
		l, me, many, draws := someView(draw, 5, room, 12), full(5, 2, 9), draw.Intn(14)-1, someDraws(draw, 14)
		node, sent, ok := Ask(l, me, many, draws)
		if len(l) == 0 || many < 1 {
			if node != 0 || len(sent) != 0 || ok {
				t.Fatal(l, many, node, sent, ok)
			}
			continue
		}
		oldest := slices.MaxFunc(l, func(a, b api.Desc) int { return int(a.Age) - int(b.Age) }) // the first one of several
		want := append([]api.Desc{full(5, 2, 9)}, pick(l, many-1, oldest.Node, draws)...)
		want[0].Age = 0
		if node != oldest.Node || !sameList(sent, want) || !ok {
			t.Fatal(l, many, draws, node, sent, ok)
		}
	}
}

// P10.3

func TestMerge(t *testing.T) {
	three := []api.Desc{full(1, 1, 1), full(2, 1, 5), full(3, 1, 0)}
	sent := []api.Desc{full(9, 1, 0), full(3, 1, 0)}
	for i, x := range []struct {
		l, got, sent []api.Desc
		room         int
		want         []api.Desc
	}{
		{three, list(4, 5), sent, 3, []api.Desc{three[0], three[1], full(4, 1, 4)}},
		{three, list(4, 5), sent, 4, []api.Desc{three[0], three[1], full(4, 1, 4), full(5, 1, 4)}},
		{three, list(4, 5), sent, 5, append(copied(three), list(4, 5)...)}, {three, list(4), sent, math.MaxInt, append(copied(three), list(4)...)},
		{three, list(5, 4), sent, 3, []api.Desc{three[0], three[1], full(5, 1, 4)}},
		{three, list(4, 5), nil, 3, three}, {three, list(4, 5), list(9), 3, three}, {three, nil, sent, 3, three}, {three, nil, nil, 9, three}, {nil, nil, sent, 3, nil},
		{nil, list(4, 2), sent, 3, list(2, 4)}, {nil, list(4, 2, 7), sent, 2, list(2, 4)}, {nil, list(4, 2, 7), list(4, 2), 2, list(2, 4)}, {nil, list(4), sent, 0, nil}, {nil, list(4), sent, -1, nil}, {nil, list(4), sent, math.MinInt, nil},
		{three, list(4, 5, 6, 7), list(1, 2, 3), 3, list(4, 5, 6)}, {three, list(4, 5), list(3, 1, 2), 3, []api.Desc{three[1], full(4, 1, 4), full(5, 1, 4)}}, {three, list(0, 4), list(2, 1), 3, []api.Desc{full(0, 1, 4), three[2], full(4, 1, 4)}},
	} {
		if got := Merge(x.l, x.got, x.sent, 9, x.room); !sameList(got, x.want) {
			t.Error(i, x, got)
		}
	}
}

func TestNewerOnesTakeTheirPlace(t *testing.T) {
	l := []api.Desc{full(1, 2, 4), full(2, 2, 4)}
	for i, x := range []struct{ d, want api.Desc }{
		{full(2, 2, 3), full(2, 2, 3)}, {full(2, 3, 255), full(2, 3, 255)}, {bare(2, 2, 3), bare(2, 2, 3)},
		{full(2, 2, 4), full(2, 2, 4)}, {bare(2, 2, 4), full(2, 2, 4)}, {full(2, 2, 5), full(2, 2, 4)}, {full(2, 1, 0), full(2, 2, 4)}, {full(2, 0, 0), full(2, 2, 4)},
	} {
		for _, room := range []int{2, 3} {
			// What was sent may not make room for a node that is there.
			if got := Merge(l, []api.Desc{x.d}, list(9, 1, 2), 9, room); !sameList(got, []api.Desc{l[0], x.want}) {
				t.Error(i, x, room, got)
			}
		}
	}
}

func TestNothingIsDroppedForWhatMayNotBe(t *testing.T) {
	l := list(1, 2, 3)
	for i, got := range [][]api.Desc{{full(9, 5, 0)}, {full(4, 0, 0)}, {bare(4, 0, 0), full(9, 1, 0)}, {full(1, 1, 4)}, {full(1, 0, 0), full(2, 1, 9)}, {{}}} {
		for _, room := range []int{3, 4} {
			if out := Merge(l, got, list(3, 2), 9, room); !sameList(out, l) {
				t.Error(i, got, room, out)
			}
		}
	}
	// And it is still there to be dropped for the next one.
	if out := Merge(l, []api.Desc{full(9, 5, 0), full(4, 0, 0), full(1, 1, 9), full(5, 1, 4)}, list(3, 2), 9, 3); !sameList(out, list(1, 2, 5)) {
		t.Error(out)
	}
}

func TestWhatWasGotIsNotDropped(t *testing.T) {
	l := list(1, 2, 3)
	for i, x := range []struct{ got, sent, want []api.Desc }{
		{[]api.Desc{full(4, 1, 4), full(3, 1, 4)}, list(3, 2), list(1, 3, 4)},
		{[]api.Desc{full(3, 1, 4), full(4, 1, 4)}, list(3, 2), list(1, 3, 4)},
		{[]api.Desc{full(4, 1, 4), full(3, 1, 9)}, list(3), l}, {[]api.Desc{full(4, 1, 4), full(3, 0, 0)}, list(3), l}, {[]api.Desc{full(3, 0, 0), full(4, 1, 4)}, list(3), l},
		{[]api.Desc{full(4, 1, 4), full(3, 1, 2)}, list(3), []api.Desc{full(1, 1, 4), full(2, 1, 4), full(3, 1, 2)}},
		{[]api.Desc{full(4, 1, 4), full(5, 1, 4)}, list(3, 4, 5), list(1, 2, 4)}, {[]api.Desc{full(4, 1, 4), full(5, 1, 4), full(4, 1, 3)}, list(3, 4, 5), []api.Desc{full(1, 1, 4), full(2, 1, 4), full(4, 1, 3)}},
		{[]api.Desc{full(9, 1, 0), full(4, 1, 4)}, list(9, 3), list(1, 2, 4)},
	} {
		if got := Merge(l, x.got, x.sent, 9, 3); !sameList(got, x.want) {
			t.Error(i, x, got)
		}
	}
}

func TestSentInItsOrder(t *testing.T) {
	l := list(1, 2, 3, 4)
	for i, x := range []struct {
		got, sent, want []api.Desc
	}{
		{list(6), list(4, 1), list(1, 2, 3, 6)}, {list(6), list(1, 4), list(2, 3, 4, 6)}, {list(6), list(7, 9, 0, 2, 1), list(1, 3, 4, 6)},
		{list(6, 7), list(4, 1), list(2, 3, 6, 7)}, {list(6, 7), list(4, 4), list(1, 2, 3, 6)}, {list(6, 7), list(4, 4, 8, 4, 3), list(1, 2, 6, 7)}, {list(6, 7, 8), list(4, 1), list(2, 3, 6, 7)}, {list(6, 6), list(4, 1), list(1, 2, 3, 6)},
		{[]api.Desc{full(6, 1, 4), full(6, 1, 3), full(7, 1, 4)}, list(4, 1), []api.Desc{full(2, 1, 4), full(3, 1, 4), full(6, 1, 3), full(7, 1, 4)}},
		{list(6), []api.Desc{full(2, 0, 0), full(1, 1, 4)}, list(1, 3, 4, 6)}, {list(6), []api.Desc{full(2, 7, 9)}, list(1, 3, 4, 6)}, {list(6), []api.Desc{bare(3, 1, 4)}, list(1, 2, 4, 6)},
	} {
		if got := Merge(l, x.got, x.sent, 9, 4); !sameList(got, x.want) {
			t.Error(i, x, got)
		}
	}
}

func TestMergeOfDrawnViews(t *testing.T) {
	draw := rand.New(rand.NewSource(3))
	for range 20000 {
		self, room, bound := uint8(draw.Intn(9)), draw.Intn(8), 3+draw.Intn(9)
		l, got, sent := someView(draw, self, room, bound), someList(draw, 6, bound), someList(draw, 6, bound)
		if out := Merge(l, got, sent, self, room); !sameList(out, merge(l, got, sent, self, room)) {
			t.Fatal(l, got, sent, self, room, out)
		}
	}
}

func TestMergeOfLongLists(t *testing.T) {
	draw := rand.New(rand.NewSource(4))
	for range 60 {
		self, room := uint8(draw.Intn(256)), draw.Intn(256)
		l, got, sent := someView(draw, self, room, 256), someList(draw, 255, 256), someList(draw, 255, 256)
		if out := Merge(l, got, sent, self, room); !sameList(out, merge(l, got, sent, self, room)) {
			t.Fatal(l, got, sent, self, room, out)
		}
	}
}

// P10.4

func TestConsequences(t *testing.T) {
	draw := rand.New(rand.NewSource(5))
	for range 20000 {
		self, room, bound := uint8(draw.Intn(9)), draw.Intn(8), 3+draw.Intn(9)
		l, got, sent := someView(draw, self, room, bound), someList(draw, 6, bound), someList(draw, 6, bound)
		out := Merge(l, got, sent, self, room)
		if !isView(out, self, room) {
			t.Fatal("no view", l, got, sent, self, room, out)
		}
		spare := len(out) < room
		for _, d := range out {
			if find(l, d.Node) < 0 && find(got, d.Node) < 0 {
				t.Fatal("from nowhere", l, got, sent, self, room, out)
			}
			spare = spare || find(sent, d.Node) >= 0 && find(got, d.Node) < 0
		}
		for _, d := range got {
			if spare && d.Node != self && d.Inc > 0 && find(out, d.Node) < 0 {
				t.Fatal("got, and lost", l, got, sent, self, room, out)
			}
		}
		for _, d := range l {
			if find(out, d.Node) < 0 && find(sent, d.Node) < 0 {
				t.Fatal("dropped without being sent", l, got, sent, self, room, out)
			}
		}
	}
}

// Two nodes that shuffle with each other: what is asked for, picked and merged fits together.
func TestShuffle(t *testing.T) {
	a, b := list(1, 2, 3, 4), list(0, 5, 6)
	node, sent, ok := Ask(a, full(0, 1, 0), 3, []uint32{2, 0})
	if node != 1 || !ok || !sameList(sent, []api.Desc{full(0, 1, 0), full(4, 1, 4), full(2, 1, 4)}) {
		t.Fatal(node, sent, ok)
	}
	back := Pick(b, 3, 0, []uint32{1, 0, 0})
	if !sameList(back, list(6, 5)) {
		t.Fatal(back)
	}
	if got := Merge(b, sent, back, 1, 3); !sameList(got, []api.Desc{full(0, 1, 0), full(2, 1, 4), full(4, 1, 4)}) {
		t.Error(got)
	}
	if got := Merge(a, back, sent, 0, 4); !sameList(got, list(1, 3, 5, 6)) {
		t.Error(got)
	}
}

// R1

func TestOtherListsReturn(t *testing.T) {
	draw := rand.New(rand.NewSource(6))
	rooms := []int{math.MinInt, -1, 0, 1, 3, 255, 256, math.MaxInt}
	for range 300 {
		l, got, sent := someList(draw, 30, 256), someList(draw, 30, 256), someList(draw, 30, 256)
		for _, room := range rooms {
			Merge(l, got, sent, uint8(draw.Intn(256)), room)
			Merge(nil, l, sent, 0, room)
			Merge(l, nil, nil, 0, room)
			Ask(l, api.Desc{}, room, someDraws(draw, 40))
			Pick(l, room, uint8(draw.Intn(256)), someDraws(draw, 40))
		}
	}
	many := slices.Repeat(upTo(256), 4)
	Merge(many, many, many, 3, 900)
	Merge(many, many, many, 3, -1)
	Ask(many, many[0], len(many), make([]uint32, 2000))
	Pick(many, len(many), 3, make([]uint32, 2000))
}

func TestThatNodeIsNowherePicked(t *testing.T) {
	if got := Pick(list(3, 1, 3, 2, 3), 5, 3, []uint32{0, 0, 0, 0, 0}); !sameList(got, list(1, 2)) {
		t.Error(got)
	}
}

// R3

// roomy returns l as a slice with spare capacity, its filters, too, and all its memory.
func roomy(l []api.Desc) (part, whole []api.Desc) {
	whole = append(copied(l), full(9, 9, 9), full(9, 9, 9), full(9, 9, 9))
	for i := range l {
		f := whole[i].Filter
		whole[i].Filter = append(f, span(77, 77), span(77, 77))[:len(f)]
	}
	return whole[:len(l)], whole
}

// memory is all of the memory of a list as one text of numbers.
func memory(l []api.Desc) []int64 {
	var out []int64
	for _, d := range l[:cap(l)] {
		out = append(out, int64(d.Node), int64(d.Inc), int64(d.Age), int64(len(d.Filter)), int64(cap(d.Filter)))
		for _, s := range d.Filter[:cap(d.Filter)] {
			out = append(out, int64(s.From), int64(s.To))
		}
	}
	return out
}

// spoil writes x into all of the memory of a list, and of its filters.
func spoil(l []api.Desc, x uint8) {
	l = l[:cap(l)]
	for i := range l {
		f := l[i].Filter[:cap(l[i].Filter)]
		for j := range f {
			f[j] = span(int32(x), -int32(x))
		}
		l[i] = api.Desc{Node: x, Inc: uint16(x), Age: x, Filter: f}
	}
}

// results are the lists that all functions return for these.
func results(l, got, sent []api.Desc, self api.Desc, draws []uint32) [][]api.Desc {
	_, asked, _ := Ask(l, self, 3, draws)
	_, alone, _ := Ask(l, self, 1, draws)
	return [][]api.Desc{
		asked, alone, Pick(l, len(l), 0, draws), Pick(l, 2, 1, draws), Pick(l, 0, 1, draws),
		Merge(l, got, sent, self.Node, len(l)), Merge(l, got, sent, self.Node, len(l)+len(got)), Merge(l, nil, sent, self.Node, len(l)), Merge(l, got, nil, self.Node, len(l)), Merge(nil, got, sent, self.Node, 3),
	}
}

// eachCase calls f for drawn views and lists, each as a slice with spare capacity.
func eachCase(f func(l, got, sent, self []api.Desc, draws []uint32)) {
	draw := rand.New(rand.NewSource(7))
	for range 300 {
		parts := [][]api.Desc{someView(draw, 5, 6, 10), someList(draw, 6, 10), someList(draw, 6, 10), {full(5, 2, 9)}}
		for i := range parts {
			parts[i], _ = roomy(parts[i])
		}
		f(parts[0], parts[1], parts[2], parts[3], someDraws(draw, 9))
	}
}

func TestArgumentsStay(t *testing.T) {
	eachCase(func(l, got, sent, self []api.Desc, draws []uint32) {
		given := [][]api.Desc{l, got, sent, self}
		var before [][]int64
		for _, x := range given {
			before = append(before, memory(x))
		}
		were := slices.Clone(draws[:cap(draws)])
		for i, out := range results(l, got, sent, self[0], draws) {
			spoil(out, uint8(80+i))
		}
		for i, x := range given {
			if !slices.Equal(memory(x), before[i]) {
				t.Fatal("an argument was changed, or is shared", i, x)
			}
		}
		if !slices.Equal(draws[:cap(draws)], were) {
			t.Fatal("draws were changed", were, draws)
		}
	})
}

func TestResultsAreTheirOwn(t *testing.T) {
	eachCase(func(l, got, sent, self []api.Desc, draws []uint32) {
		first := results(l, got, sent, self[0], draws)
		want := results(copied(l), copied(got), copied(sent), copied(self)[0], draws)
		for _, x := range [][]api.Desc{l, got, sent, self} {
			spoil(x, 70)
		}
		for i := range first {
			if !sameList(first[i], want[i]) {
				t.Fatal("memory of an argument", i, first[i], want[i])
			}
		}
		for i, out := range first {
			spoil(out, uint8(80+i))
			for j := i + 1; j < len(first); j++ {
				if !sameList(first[j], want[j]) {
					t.Fatal("memory of another result", i, j)
				}
			}
		}
	})
}

func TestFiltersOfOneResultAreApart(t *testing.T) {
	shared := api.Filter{span(1, 1), span(2, 2)}
	l, got := list(1, 2, 3), list(4, 6)
	for _, x := range [][]api.Desc{l, got} {
		for i := range x {
			x[i].Filter = shared
		}
	}
	self := api.Desc{Node: 5, Inc: 1, Filter: shared}
	for i, out := range results(l, got, list(2), self, []uint32{1, 1, 1}) {
		for j := range out {
			f := out[j].Filter[:cap(out[j].Filter)]
			for k := range f {
				f[k] = span(9, 9)
			}
			for k := j + 1; k < len(out); k++ {
				if !slices.Equal(out[k].Filter, api.Filter{span(1, 1), span(2, 2)}) {
					t.Fatal(i, j, k, out)
				}
			}
		}
	}
	if !slices.Equal(shared, api.Filter{span(1, 1), span(2, 2)}) {
		t.Error(shared)
	}
}

// R4

func TestTheSameAgain(t *testing.T) {
	eachCase(func(l, got, sent, self []api.Desc, draws []uint32) {
		first, second := results(l, got, sent, self[0], draws), results(l, got, sent, self[0], draws)
		for i := range first {
			if !sameList(first[i], second[i]) {
				t.Fatal(i, first[i], second[i])
			}
		}
	})
}
