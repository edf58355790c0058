package near

import (
	"math"
	"math/rand"
	"slices"
	"testing"

	"grapevine/api"
	"grapevine/desctest"
	"grapevine/score"
)

const (
	lowest  = math.MinInt32
	highest = math.MaxInt32
)

var (
	full = desctest.Full
	list = desctest.List
	sp   = desctest.Span
)

// ten is the filter that most tests choose for.
var ten = api.Filter{{From: 0, To: 9}}

// wants is a descriptor of incarnation 1 with these spans.
func wants(node, age uint8, spans ...api.Span) api.Desc {
	return life(node, 1, age, spans...)
}

// life is a descriptor with these spans.
func life(node uint8, inc uint16, age uint8, spans ...api.Span) api.Desc {
	return api.Desc{Node: node, Inc: inc, Age: age, Filter: spans}
}

// has is a descriptor with so many numbers in common with ten.
func has(node, age uint8, common int32) api.Desc {
	return wants(node, age, sp(10-common, 20))
}

// drawnFilter is a filter of none to three spans, most of them of two, with ends from -2 to 7, some of them empty.
func drawnFilter(draw *rand.Rand) api.Filter {
	many := []int{0, 1, 2, 2, 2, 2, 2, 2, 3}[draw.Intn(9)]
	var f api.Filter
	for range many {
		from := int32(draw.Intn(8) - 2)
		f = append(f, sp(from, from+int32(draw.Intn(6)-1)))
	}
	return f
}

// drawn is lists of descriptors of nodes below the bound, as desctest.Any draws them, with such filters.
func drawn(draw *rand.Rand, bound int) [][]api.Desc {
	var lists [][]api.Desc
	for range draw.Intn(4) {
		l := desctest.Any(draw, 2*bound, bound)
		for i := range l {
			l[i].Filter = drawnFilter(draw)
		}
		lists = append(lists, l)
	}
	return lists
}

// better is the chapter's term by itself.
func better(own api.Filter, a, b api.Desc) bool {
	x, y := score.Overlap(own, a.Filter), score.Overlap(own, b.Filter)
	if x != y {
		return x > y
	}
	if a.Age != b.Age {
		return a.Age < b.Age
	}
	return a.Node < b.Node
}

// newest reports whether none of all is a newer one of the node of all[at], nor an equally new one ahead of it.
func newest(all []api.Desc, at int) bool {
	d := all[at]
	for i, other := range all {
		if other.Node != d.Node {
			continue
		}
		if other.Inc > d.Inc || other.Inc == d.Inc && (other.Age < d.Age || other.Age == d.Age && i < at) {
			return false
		}
	}
	return true
}

// union is the chapter's term by itself, node by node.
func union(self uint8, lists ...[]api.Desc) []api.Desc {
	all := slices.Concat(lists...)
	var out []api.Desc
	for node := range 256 {
		for i, d := range all {
			if int(d.Node) == node && d.Node != self && d.Inc >= 1 && newest(all, i) {
				out = append(out, d)
			}
		}
	}
	return out
}

// choose is the chapter's term by itself: of the union are chosen those than which fewer are better than there is room.
func choose(own api.Filter, self uint8, room int, lists ...[]api.Desc) []api.Desc {
	known := union(self, lists...)
	var out []api.Desc
	for _, d := range known {
		ahead := 0
		for _, other := range known {
			if better(own, other, d) {
				ahead++
			}
		}
		if score.Overlap(own, d.Filter) > 0 && ahead < room {
			out = append(out, d)
		}
	}
	return out
}

// P12.1

func TestBetter(t *testing.T) {
	all := sp(lowest, highest)
	for i, x := range []struct {
		own  api.Filter
		a, b api.Desc
	}{
		{ten, has(9, 255, 2), has(0, 0, 1)}, {ten, has(9, 255, 10), has(0, 0, 9)}, {ten, has(9, 255, 1), has(0, 0, 0)}, {ten, has(9, 255, 1), wants(0, 0)}, {ten, has(9, 255, 1), wants(0, 0, ten[0], ten[0])}, {ten, has(9, 255, 1), wants(0, 0, sp(9, 0))},
		{ten, has(9, 0, 5), has(0, 1, 5)}, {ten, has(9, 254, 5), has(0, 255, 5)}, {ten, wants(9, 3, sp(0, 4)), wants(0, 4, sp(5, 9))}, {ten, has(9, 0, 0), has(0, 1, 0)}, {ten, wants(9, 0), has(0, 1, 0)},
		{ten, has(0, 7, 5), has(1, 7, 5)}, {ten, has(254, 7, 5), has(255, 7, 5)}, {ten, has(127, 7, 5), has(128, 7, 5)}, {ten, wants(3, 7, sp(5, 9)), wants(4, 7, sp(0, 4))}, {ten, has(3, 7, 0), wants(4, 7)},
		{ten, life(3, 1, 7, ten...), life(4, 9, 7, ten...)}, {ten, life(3, 0, 7, ten...), life(4, 1, 7, ten...)}, {ten, life(3, 1, 6, ten...), life(3, 2, 7, ten...)},
		{nil, wants(9, 0), wants(0, 1, ten...)}, {nil, wants(3, 7, sp(1, 1)), wants(4, 7, ten...)}, {api.Filter{}, wants(9, 0, ten...), wants(0, 1)}, {api.Filter{sp(9, 0)}, wants(9, 0, sp(9, 0)), wants(0, 1, all)},
		{api.Filter{all, all}, wants(9, 255, all, sp(0, 0)), wants(0, 0, sp(0, highest), sp(0, 0))}, {api.Filter{all, all}, wants(9, 1, all, sp(0, 0)), wants(0, 2, all, all)}, {api.Filter{all}, wants(9, 255, sp(lowest, highest-1)), wants(0, 0, sp(lowest, highest-2))}, {api.Filter{all}, wants(1, 5, sp(lowest, highest-1)), wants(2, 5, all)},
		{api.Filter{sp(0, 9), sp(0, 9)}, wants(9, 9, sp(4, 9), sp(9, 20)), wants(0, 0, sp(5, 9), sp(9, 20))}, {api.Filter{sp(0, 9), sp(0, 9)}, wants(9, 9, sp(7, 9), sp(8, 20)), wants(0, 0, sp(-9, 4), sp(0, 0))},
	} {
		if !Better(x.own, x.a, x.b) {
			t.Error(i, "not better", x)
		}
		if Better(x.own, x.b, x.a) {
			t.Error(i, "better both ways, or the wrong one", x)
		}
	}
}

func TestNotBetterThanOnesLikeIt(t *testing.T) {
	for i, x := range []struct{ a, b api.Desc }{
		{has(3, 4, 5), has(3, 4, 5)}, {has(0, 0, 0), has(0, 0, 0)}, {api.Desc{}, api.Desc{}}, {wants(3, 4, sp(0, 4)), wants(3, 4, sp(5, 9))}, {life(3, 1, 4, ten...), life(3, 2, 4, ten...)}, {life(3, 0, 4), life(3, 2, 4, sp(10, 20))},
	} {
		if Better(ten, x.a, x.b) || Better(ten, x.b, x.a) || Better(nil, x.a, x.b) || Better(nil, x.b, x.a) {
			t.Error(i, x)
		}
	}
}

// few are descriptors of all mixtures of a few nodes, incarnations, ages and filters.
func few() []api.Desc {
	var out []api.Desc
	for code := range 3 * 2 * 3 * 5 {
		filters := []api.Filter{nil, {sp(0, 3)}, {sp(6, 12)}, {sp(3, 4), sp(0, 0)}, {sp(20, 30)}}
		out = append(out, life([]uint8{0, 7, 255}[code%3], uint16(1+code/3%2), []uint8{0, 1, 255}[code/6%3], filters[code/18]...))
	}
	return out
}

func TestBetterOfAFew(t *testing.T) {
	all := few()
	for _, own := range []api.Filter{nil, ten, {sp(3, 3)}, {sp(0, 9), sp(0, 9)}, {sp(30, 40)}, {sp(9, 0)}} {
		for _, a := range all {
			for _, b := range all {
				got := Better(own, a, b)
				if got != better(own, a, b) {
					t.Fatal(own, a, b, got)
				}
				if a.Node != b.Node && got == Better(own, b, a) {
					t.Fatal("of two nodes neither or both", own, a, b)
				}
			}
		}
	}
}

func TestUnion(t *testing.T) {
	for i, x := range []struct {
		lists [][]api.Desc
		want  []api.Desc
	}{
		{nil, nil}, {[][]api.Desc{nil}, nil}, {[][]api.Desc{nil, {}, nil}, nil},
		{[][]api.Desc{list(1, 2)}, list(1, 2)}, {[][]api.Desc{list(3, 1, 2)}, list(1, 2, 3)}, {[][]api.Desc{list(1), list(3), list(2)}, list(1, 2, 3)}, {[][]api.Desc{list(4, 6), nil, list(1, 3, 8)}, list(1, 3, 4, 6, 8)}, {[][]api.Desc{list(255, 0), list(128, 127)}, list(0, 127, 128, 255)},
		{[][]api.Desc{list(5)}, nil}, {[][]api.Desc{list(4, 5, 6), list(5, 7)}, list(4, 6, 7)}, {[][]api.Desc{{full(5, api.MaxInc, 0)}, {full(5, 0, 0)}}, nil},
		{[][]api.Desc{{full(1, 0, 0), full(2, 1, 0)}}, []api.Desc{full(2, 1, 0)}}, {[][]api.Desc{{full(1, 0, 0)}, {full(1, 1, 255)}, {full(1, 0, 0)}}, []api.Desc{full(1, 1, 255)}}, {[][]api.Desc{{{}}, {{Node: 1}}}, nil},
		{[][]api.Desc{{full(1, 1, 0), full(1, 2, 255)}}, []api.Desc{full(1, 2, 255)}}, {[][]api.Desc{{full(1, 2, 255)}, {full(1, 1, 0)}}, []api.Desc{full(1, 2, 255)}}, {[][]api.Desc{{full(1, api.MaxInc-1, 0)}, {full(1, api.MaxInc, 255)}}, []api.Desc{full(1, api.MaxInc, 255)}}, {[][]api.Desc{{full(1, 255, 0)}, {full(1, 256, 0)}}, []api.Desc{full(1, 256, 0)}},
		{[][]api.Desc{{full(1, 2, 4), full(1, 2, 3)}}, []api.Desc{full(1, 2, 3)}}, {[][]api.Desc{{full(1, 2, 3)}, {full(1, 2, 4)}}, []api.Desc{full(1, 2, 3)}}, {[][]api.Desc{{full(1, 2, 255)}, {full(1, 2, 254)}}, []api.Desc{full(1, 2, 254)}}, {[][]api.Desc{{full(1, 1, 3), full(1, 2, 9), full(1, 2, 5), full(1, 2, 7), full(1, 1, 0)}}, []api.Desc{full(1, 2, 5)}},
		{[][]api.Desc{{wants(1, 3, sp(0, 4)), wants(1, 3, sp(0, 9))}}, []api.Desc{wants(1, 3, sp(0, 4))}}, {[][]api.Desc{{wants(1, 3)}, {wants(1, 3, sp(0, 9))}}, []api.Desc{wants(1, 3)}}, {[][]api.Desc{{wants(2, 3, sp(0, 4))}, {wants(1, 3, sp(1, 1)), wants(2, 3, sp(0, 9))}, {wants(1, 3, sp(2, 2))}}, []api.Desc{wants(1, 3, sp(1, 1)), wants(2, 3, sp(0, 4))}}, {[][]api.Desc{{wants(1, 4, sp(0, 4))}, {wants(1, 3, sp(1, 1)), wants(1, 3, sp(2, 2))}}, []api.Desc{wants(1, 3, sp(1, 1))}},
	} {
		if got := Union(5, x.lists...); !desctest.Same(got, x.want) {
			t.Error(i, x, got)
		}
	}
	if got := Union(0); len(got) != 0 {
		t.Error(got)
	}
}

func TestUnionOfAllNodes(t *testing.T) {
	var up, down []api.Desc
	for node := range 256 {
		up = append(up, full(uint8(node), uint16(1+node%3), 9))
		down = append(down, full(uint8(255-node), 2, 9))
	}
	for self := range 256 {
		got := Union(uint8(self), down, up)
		if len(got) != 255 || !desctest.IsView(got, uint8(self), 255) || !desctest.Same(got, union(uint8(self), down, up)) {
			t.Fatal(self, got)
		}
	}
}

func TestUnionOfAFew(t *testing.T) {
	var all []api.Desc
	for code := range 2 * 3 * 2 {
		all = append(all, life(uint8(code%2), uint16(code/2%3), uint8(code/6), sp(int32(code), 50)))
	}
	for _, a := range all {
		for _, b := range all {
			// The second one of two alike can be told from the first one.
			b.Filter = api.Filter{sp(b.Filter[0].From, 60)}
			for self := range uint8(3) {
				want := union(self, []api.Desc{a, b})
				for i, lists := range [][][]api.Desc{{{a, b}}, {{a}, {b}}, {nil, {a}, {}, {b}, nil}} {
					if got := Union(self, lists...); !desctest.Same(got, want) {
						t.Fatal(i, a, b, self, got, want)
					}
				}
			}
		}
	}
}

func TestDrawnUnions(t *testing.T) {
	draw := rand.New(rand.NewSource(1))
	for range 10000 {
		bound := 2 + draw.Intn(9)
		lists, self := drawn(draw, bound), uint8(draw.Intn(bound))
		if got := Union(self, lists...); !desctest.Same(got, union(self, lists...)) {
			t.Fatal(self, lists, got)
		}
	}
}

// P12.2

func TestChoose(t *testing.T) {
	three := []api.Desc{has(1, 0, 5), has(2, 0, 3), has(3, 0, 0)}
	same := []api.Desc{has(1, 9, 4), has(2, 8, 4), has(3, 7, 4), has(4, 8, 4), has(6, 7, 4)}
	for i, x := range []struct {
		own   api.Filter
		room  int
		lists [][]api.Desc
		want  []api.Desc
	}{
		{ten, 3, nil, nil}, {ten, 3, [][]api.Desc{nil, {}}, nil}, {nil, 3, [][]api.Desc{three}, nil}, {api.Filter{}, 3, [][]api.Desc{{wants(1, 0)}}, nil}, {api.Filter{sp(9, 0)}, 3, [][]api.Desc{three}, nil}, {api.Filter{sp(0, 9), sp(0, 9)}, 3, [][]api.Desc{three}, nil},
		{ten, math.MinInt, [][]api.Desc{three}, nil}, {ten, -1, [][]api.Desc{three}, nil}, {ten, 0, [][]api.Desc{three}, nil}, {ten, 1, [][]api.Desc{three}, three[:1]}, {ten, 2, [][]api.Desc{three}, three[:2]}, {ten, 3, [][]api.Desc{three}, three[:2]}, {ten, math.MaxInt, [][]api.Desc{three}, three[:2]},
		{ten, 1, [][]api.Desc{{has(1, 0, 3)}, {has(2, 0, 5)}}, []api.Desc{has(2, 0, 5)}}, {ten, 2, [][]api.Desc{{has(4, 0, 9), has(2, 0, 1)}, {has(3, 0, 7), has(1, 9, 8)}}, []api.Desc{has(1, 9, 8), has(4, 0, 9)}}, {ten, 3, [][]api.Desc{{has(4, 0, 9), has(2, 0, 1)}, {has(3, 0, 7), has(1, 9, 8)}}, []api.Desc{has(1, 9, 8), has(3, 0, 7), has(4, 0, 9)}}, {ten, 1, [][]api.Desc{{has(0, 0, 9), has(255, 255, 10)}}, []api.Desc{has(255, 255, 10)}}, {ten, 4, [][]api.Desc{{wants(1, 0), wants(2, 0, sp(9, 0)), wants(3, 0, ten[0], ten[0]), wants(4, 0, sp(10, 11)), wants(6, 0, sp(9, 11)), wants(7, 0, sp(-3, -1))}}, []api.Desc{wants(6, 0, sp(9, 11))}},
		{ten, 1, [][]api.Desc{same}, same[2:3]}, {ten, 2, [][]api.Desc{same}, []api.Desc{same[2], same[4]}}, {ten, 3, [][]api.Desc{same}, []api.Desc{same[1], same[2], same[4]}}, {ten, 4, [][]api.Desc{same}, same[1:]}, {ten, 5, [][]api.Desc{same}, same}, {ten, 6, [][]api.Desc{same[3:], same[:3]}, same},
		{ten, 9, [][]api.Desc{{has(5, 0, 9), has(4, 0, 1)}, {has(5, 1, 9)}}, []api.Desc{has(4, 0, 1)}}, {ten, 1, [][]api.Desc{{has(5, 0, 9), has(4, 0, 1)}}, []api.Desc{has(4, 0, 1)}}, {ten, 1, [][]api.Desc{{life(1, 0, 0, ten...), has(2, 9, 1)}}, []api.Desc{has(2, 9, 1)}},
		{ten, 1, [][]api.Desc{{life(1, 1, 0, ten...), has(2, 9, 1)}, {life(1, 2, 9, sp(20, 30))}}, []api.Desc{has(2, 9, 1)}}, {ten, 2, [][]api.Desc{{life(1, 1, 4, ten...)}, {life(1, 1, 3, sp(9, 9)), has(2, 9, 2)}}, []api.Desc{life(1, 1, 3, sp(9, 9)), has(2, 9, 2)}}, {ten, 1, [][]api.Desc{{life(1, 1, 4, ten...)}, {life(1, 1, 3, sp(9, 9)), has(2, 9, 2)}}, []api.Desc{has(2, 9, 2)}}, {ten, 1, [][]api.Desc{{wants(1, 4, sp(0, 0))}, {wants(1, 4, ten...), has(2, 9, 2)}}, []api.Desc{has(2, 9, 2)}},
	} {
		if got := Choose(x.own, 5, x.room, x.lists...); !desctest.Same(got, x.want) {
			t.Error(i, x, got)
		}
	}
	if got := Choose(ten, 0, 3); len(got) != 0 {
		t.Error(got)
	}
}

func TestExample(t *testing.T) {
	a, b, c := wants(1, 0, sp(5, 20)), wants(2, 0, sp(0, 2)), wants(3, 0, sp(30, 40))
	if got := Choose(ten, 0, 1, []api.Desc{a, b, c}); !desctest.Same(got, []api.Desc{a}) {
		t.Error(got)
	}
	if got := Choose(ten, 0, 9, []api.Desc{a, b, c}); !desctest.Same(got, []api.Desc{a, b}) {
		t.Error(got)
	}
	if !Better(ten, a, b) || !Better(ten, b, c) || Better(ten, c, a) {
		t.Error("not as much in common as there should be")
	}
}

// Overlaps that are above the bound count as the bound.
func TestChooseAboveTheBound(t *testing.T) {
	all := sp(lowest, highest)
	l := []api.Desc{wants(1, 9, all, all), wants(2, 8, all, sp(0, 0)), wants(3, 7, sp(0, highest), sp(0, 0)), wants(4, 9, all, sp(0, 1))}
	for room, want := range [][]api.Desc{nil, {l[1]}, {l[0], l[1]}, {l[0], l[1], l[3]}, l, l} {
		if got := Choose(api.Filter{all, all}, 5, room, l); !desctest.Same(got, want) {
			t.Error(room, got)
		}
	}
}

func TestChooseOfAllNodes(t *testing.T) {
	var l []api.Desc
	for _, node := range rand.New(rand.NewSource(2)).Perm(256) {
		l = append(l, wants(uint8(node), uint8(node/16), sp(int32(node%7), 6)))
	}
	for room := range 258 {
		got := Choose(api.Filter{sp(0, 6)}, 77, room, l[:100], l[50:])
		if len(got) != min(room, 255) || !desctest.Same(got, choose(api.Filter{sp(0, 6)}, 77, room, l)) {
			t.Fatal(room, got)
		}
	}
}

func TestChooseOfAFew(t *testing.T) {
	all := few()
	for _, own := range []api.Filter{nil, ten, {sp(0, 9), sp(0, 9)}} {
		for _, a := range all {
			for _, b := range all {
				third := wants(8, 1, sp(0, 3))
				for room := range 4 {
					if got := Choose(own, 0, room, []api.Desc{a}, []api.Desc{third, b}); !desctest.Same(got, choose(own, 0, room, []api.Desc{a, third, b})) {
						t.Fatal(own, a, b, room, got)
					}
				}
			}
		}
	}
}

func TestDrawnChoices(t *testing.T) {
	draw := rand.New(rand.NewSource(3))
	for range 10000 {
		bound := 2 + draw.Intn(9)
		own, lists, self, room := drawnFilter(draw), drawn(draw, bound), uint8(draw.Intn(bound)), draw.Intn(bound+2)-1
		if got := Choose(own, self, room, lists...); !desctest.Same(got, choose(own, self, room, lists...)) {
			t.Fatal(own, self, room, lists, got)
		}
	}
}

// P12.3

func TestConsequences(t *testing.T) {
	draw := rand.New(rand.NewSource(4))
	for range 5000 {
		bound := 2 + draw.Intn(9)
		own, lists, self, room := drawnFilter(draw), drawn(draw, bound), uint8(draw.Intn(bound)), draw.Intn(bound+2)
		got, more := Choose(own, self, room, lists...), Choose(own, self, room+1, lists...)
		if !desctest.IsView(got, self, room) || len(more) < len(got) {
			t.Fatal("no view", own, self, room, lists, got, more)
		}
		for i, again := range [][][]api.Desc{{got}, {got, got}, append([][]api.Desc{got}, lists...), append(slices.Clone(lists), got)} {
			if !desctest.Same(Choose(own, self, room, again...), got) {
				t.Fatal("chosen again, and others", i, own, self, room, lists, got)
			}
		}
		for _, d := range got {
			if at := desctest.Find(more, d.Node); at < 0 || !desctest.Same(more[at:at+1], []api.Desc{d}) {
				t.Fatal("lost with more room", own, self, room, lists, got, more)
			}
		}
		for _, left := range Union(self, lists...) {
			for _, d := range got {
				if desctest.Find(got, left.Node) < 0 && Better(own, left, d) {
					t.Fatal("a better one is left out", own, self, room, lists, got)
				}
			}
		}
	}
}

// R1

func TestOtherArgumentsReturn(t *testing.T) {
	draw := rand.New(rand.NewSource(5))
	for range 300 {
		l, one := desctest.Any(draw, 30, 256), desctest.One(draw, 256)
		for _, own := range []api.Filter{nil, one.Filter, {sp(highest, lowest)}, slices.Repeat(ten, 99)} {
			Better(own, one, api.Desc{})
			for _, room := range []int{math.MinInt, -1, 0, 255, 256, math.MaxInt} {
				Choose(own, one.Node, room, l, nil, []api.Desc{one}, l)
			}
		}
	}
}

func TestLongListsReturn(t *testing.T) {
	var l []api.Desc
	for i := range 100000 {
		l = append(l, life(uint8(i), uint16(1+i/256), 0, sp(0, int32(i%256))))
	}
	lists := slices.Repeat([][]api.Desc{l}, 3)
	if got := Union(1, lists...); len(got) != 255 || !desctest.IsView(got, 1, 255) {
		t.Error(len(got))
	}
	if got := Choose(api.Filter{sp(0, 999)}, 255, 2, lists...); len(got) != 2 || got[0].Node != 253 || got[1].Node != 254 {
		t.Error(got)
	}
}

// R3

func TestMemory(t *testing.T) {
	draw := rand.New(rand.NewSource(6))
	for range 300 {
		args := append([][]api.Desc{{{Filter: drawnFilter(draw)}}}, drawn(draw, 8)...)
		fault := desctest.Fault(args, func(args [][]api.Desc) [][]api.Desc {
			own, lists := args[0][0].Filter, args[1:]
			Better(own, args[0][0], args[0][0])
			return [][]api.Desc{Union(3, lists...), Union(9, lists...), Choose(own, 3, 2, lists...), Choose(own, 9, 99, lists...), Choose(own, 9, 0, lists...)}
		})
		if fault != "" {
			t.Fatal(fault, args)
		}
	}
}

// The lists themselves are in memory that is not the functions' own, too.
func TestTheListOfLists(t *testing.T) {
	whole := [][]api.Desc{list(3, 1), nil, list(2), list(6, 5)}
	before := slices.Clone(whole)
	Union(9, whole[:3]...)
	Choose(ten, 9, 2, whole[:3]...)
	for i := range whole {
		if !desctest.Same(whole[i], before[i]) || (whole[i] == nil) != (before[i] == nil) {
			t.Error(i, whole[i])
		}
	}
}
