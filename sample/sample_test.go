package sample

import (
	"math"
	"math/rand"
	"testing"

	"grapevine/api"
	"grapevine/desctest"
)

var (
	full = desctest.Full
	bare = desctest.Bare
	list = desctest.List
)

func sameWait(a, b api.Wait) bool {
	return a.Some == b.Some && a.Node == b.Node && a.Left == b.Left && desctest.Same(a.Sent, b.Sent)
}

// isNone reports whether all of w is zero.
func isNone(w api.Wait) bool {
	return !w.Some && w.Node == 0 && w.Left == 0 && len(w.Sent) == 0
}

// waits is a wait as its fields, made without the package.
func waits(node, left uint8, sent []api.Desc) api.Wait {
	return api.Wait{Some: true, Node: node, Left: left, Sent: sent}
}

// eldest is the node of the first descriptor that is as old as any.
func eldest(l []api.Desc) uint8 {
	for age := math.MaxUint8; age >= 0; age-- {
		for _, d := range l {
			if int(d.Age) == age {
				return d.Node
			}
		}
	}
	return 0
}

// admit is the chapter's term by itself.
func admit(l []api.Desc, d api.Desc, self uint8, room int) []api.Desc {
	if desctest.Accepts(l, d, self, room) {
		return desctest.With(l, d)
	}
	if d.Node == self || d.Inc < 1 || desctest.Find(l, d.Node) >= 0 || len(l) == 0 {
		return l
	}
	return desctest.With(desctest.Without(l, eldest(l)), d)
}

// fill is the chapter's term by itself.
func fill(l, got []api.Desc, self uint8, room int) []api.Desc {
	out := desctest.Copied(l)
	for _, d := range got {
		if desctest.Accepts(out, d, self, room) {
			out = desctest.With(out, d)
		}
	}
	return out
}

// P11.1

func TestStart(t *testing.T) {
	lists := [][]api.Desc{nil, {}, list(4), list(9, 4, 4, 0), {bare(0, 0, 0)}, {full(255, api.MaxInc, 255), bare(3, 1, 2)}}
	for _, node := range []uint8{0, 1, 3, 11, 12, 254, 255} {
		for left := range 256 {
			for i, sent := range lists {
				if w := Start(node, uint8(left), sent); !sameWait(w, waits(node, uint8(max(left, 1)), sent)) {
					t.Fatal(node, left, i, w)
				}
			}
		}
	}
}

func TestTick(t *testing.T) {
	sent := []api.Desc{full(9, 1, 0), bare(3, 2, 255), full(3, 0, 1)}
	for _, node := range []uint8{0, 3, 255} {
		for left := 2; left < 256; left++ {
			w, gone, ok := Tick(waits(node, uint8(left), sent))
			if !sameWait(w, waits(node, uint8(left-1), sent)) || gone != 0 || ok {
				t.Fatal(node, left, w, gone, ok)
			}
		}
		for _, last := range []api.Wait{waits(node, 1, sent), Start(node, 1, sent), Start(node, 0, sent), Start(node, 0, nil)} {
			if w, gone, ok := Tick(last); !isNone(w) || gone != node || !ok {
				t.Fatal(last, w, gone, ok)
			}
		}
	}
}

func TestTickOfNone(t *testing.T) {
	for _, none := range []api.Wait{{}, {Sent: []api.Desc{}}, {Node: 7}, {Left: 1}, {Node: 7, Left: 9, Sent: list(1)}} {
		if w, gone, ok := Tick(none); !isNone(w) || gone != 0 || ok {
			t.Error(none, w, gone, ok)
		}
	}
}

// A wait without ticks was not made by Start: it is given up, and its ticks do not wrap round.
func TestTickOfNoTicks(t *testing.T) {
	if w, gone, ok := Tick(waits(7, 0, list(1))); !isNone(w) || gone != 7 || !ok {
		t.Error(w, gone, ok)
	}
}

func TestExampleOfTicks(t *testing.T) {
	w := Start(3, 2, list(9, 4))
	w, gone, ok := Tick(w)
	if !sameWait(w, waits(3, 1, list(9, 4))) || gone != 0 || ok {
		t.Error(w, gone, ok)
	}
	w, gone, ok = Tick(w)
	if !isNone(w) || gone != 3 || !ok {
		t.Error(w, gone, ok)
	}
	w, gone, ok = Tick(w)
	if !isNone(w) || gone != 0 || ok {
		t.Error(w, gone, ok)
	}
}

// P11.2

func TestAnswer(t *testing.T) {
	lists := [][]api.Desc{nil, list(4), {full(9, 1, 0), bare(3, 2, 255), full(3, 0, 1)}}
	for node := range 256 {
		for from := range 256 {
			for i, sent := range lists {
				left := uint8(1 + (node+from+i)%255)
				w, back, ok := Answer(waits(uint8(node), left, sent), uint8(from))
				if node == from {
					if !isNone(w) || !desctest.Same(back, sent) || !ok {
						t.Fatal(node, from, i, w, back, ok)
					}
				} else if !sameWait(w, waits(uint8(node), left, sent)) || len(back) != 0 || ok {
					t.Fatal(node, from, i, w, back, ok)
				}
			}
		}
	}
}

func TestAnswerToNobody(t *testing.T) {
	for from := range 256 {
		for _, none := range []api.Wait{{}, {Sent: []api.Desc{}}} {
			if w, back, ok := Answer(none, uint8(from)); !isNone(w) || len(back) != 0 || ok {
				t.Error(from, w, back, ok)
			}
		}
		if _, back, ok := Answer(api.Wait{Node: 7, Left: 2, Sent: list(1)}, uint8(from)); len(back) != 0 || ok {
			t.Error(from, back, ok)
		}
	}
}

func TestExampleOfAnswers(t *testing.T) {
	w := Start(3, 2, list(9, 4))
	w, back, ok := Answer(w, 4)
	if !sameWait(w, waits(3, 2, list(9, 4))) || len(back) != 0 || ok {
		t.Error(w, back, ok)
	}
	w, back, ok = Answer(w, 3)
	if !isNone(w) || !desctest.Same(back, list(9, 4)) || !ok {
		t.Error(w, back, ok)
	}
	w, back, ok = Answer(w, 3)
	if !isNone(w) || len(back) != 0 || ok {
		t.Error("answered twice", w, back, ok)
	}
}

// P11.3

func TestAdmit(t *testing.T) {
	two := []api.Desc{full(1, 1, 5), full(2, 1, 1)}
	three := []api.Desc{full(1, 2, 3), full(4, 1, 8), full(6, 1, 8)}
	for i, x := range []struct {
		l    []api.Desc
		d    api.Desc
		room int
		want []api.Desc
	}{
		{two, full(7, 1, 0), 2, []api.Desc{two[1], full(7, 1, 0)}}, {two, full(0, 1, 0), 2, []api.Desc{full(0, 1, 0), two[1]}}, {two, bare(7, 1, 9), 2, []api.Desc{two[1], bare(7, 1, 9)}}, {two, full(7, api.MaxInc, 255), 2, []api.Desc{two[1], full(7, api.MaxInc, 255)}},
		{two, full(7, 1, 0), 3, append(desctest.Copied(two), full(7, 1, 0))}, {two, full(7, 1, 0), math.MaxInt, append(desctest.Copied(two), full(7, 1, 0))},
		{three, full(5, 1, 0), 3, []api.Desc{three[0], full(5, 1, 0), three[2]}}, {three, full(0, 1, 0), 3, []api.Desc{full(0, 1, 0), three[0], three[2]}}, {three, full(255, 1, 0), 3, []api.Desc{three[0], three[2], full(255, 1, 0)}}, {three, full(5, 1, 255), 3, []api.Desc{three[0], full(5, 1, 255), three[2]}},
		{list(1, 2, 3), full(4, 1, 4), 3, list(2, 3, 4)}, {list(1), full(4, 1, 9), 1, []api.Desc{full(4, 1, 9)}}, {list(5), list(4)[0], 1, list(4)}, {[]api.Desc{full(1, 1, 0), full(2, 1, 255)}, full(3, 1, 0), 2, []api.Desc{full(1, 1, 0), full(3, 1, 0)}},
		{nil, full(4, 1, 0), 1, []api.Desc{full(4, 1, 0)}}, {[]api.Desc{}, full(4, 1, 0), 9, []api.Desc{full(4, 1, 0)}}, {nil, full(4, 1, 0), 0, nil}, {[]api.Desc{}, full(4, 1, 0), 0, nil}, {nil, full(4, 1, 0), -1, nil}, {nil, full(4, 1, 0), math.MinInt, nil},
	} {
		if got := Admit(x.l, x.d, 9, x.room); !desctest.Same(got, x.want) {
			t.Error(i, x, got)
		}
	}
}

func TestAdmitOfNodesThatAreThere(t *testing.T) {
	l := []api.Desc{full(1, 2, 9), full(2, 2, 4)}
	for i, x := range []struct{ d, want api.Desc }{
		{full(2, 2, 3), full(2, 2, 3)}, {full(2, 3, 255), full(2, 3, 255)}, {bare(2, 2, 3), bare(2, 2, 3)},
		{full(2, 2, 4), full(2, 2, 4)}, {bare(2, 2, 4), full(2, 2, 4)}, {full(2, 2, 5), full(2, 2, 4)}, {full(2, 1, 0), full(2, 2, 4)}, {full(2, 0, 0), full(2, 2, 4)},
	} {
		for _, room := range []int{2, 3} {
			if got := Admit(l, x.d, 9, room); !desctest.Same(got, []api.Desc{l[0], x.want}) {
				t.Error(i, x, room, got)
			}
		}
	}
	// An older one of the oldest node does not come in its own place.
	for _, d := range []api.Desc{full(1, 1, 0), full(1, 2, 9), full(1, 2, 10)} {
		if got := Admit(l, d, 9, 2); !desctest.Same(got, l) {
			t.Error(d, got)
		}
	}
	if got := Admit(l, full(1, 2, 8), 9, 2); !desctest.Same(got, []api.Desc{full(1, 2, 8), l[1]}) {
		t.Error(got)
	}
}

func TestNobodyGoesForWhatMayNotBe(t *testing.T) {
	l := list(1, 2, 3)
	for _, room := range []int{3, 4} {
		for _, d := range []api.Desc{full(9, 1, 0), full(9, 0, 0), full(9, api.MaxInc, 0), full(4, 0, 0), bare(4, 0, 255), {}} {
			if got := Admit(l, d, 9, room); !desctest.Same(got, l) {
				t.Error(d, room, got)
			}
			if got := Fill(l, []api.Desc{d}, 9, room); !desctest.Same(got, l) {
				t.Error(d, room, got)
			}
		}
	}
	for _, room := range []int{0, 2} {
		for _, d := range []api.Desc{full(9, 1, 0), full(4, 0, 0)} {
			if got := Admit(nil, d, 9, room); len(got) != 0 {
				t.Error(d, room, got)
			}
		}
	}
}

func TestFill(t *testing.T) {
	two := []api.Desc{full(1, 1, 5), full(2, 1, 1)}
	for i, x := range []struct {
		l, got []api.Desc
		room   int
		want   []api.Desc
	}{
		{two, list(7), 2, two}, {two, list(7), 3, append(desctest.Copied(two), list(7)...)}, {two, list(7, 0, 5), 4, []api.Desc{full(0, 1, 4), two[0], two[1], full(7, 1, 4)}}, {two, list(7, 0, 5), 3, append(desctest.Copied(two), list(7)...)}, {two, list(7, 0, 5), math.MaxInt, []api.Desc{full(0, 1, 4), two[0], two[1], full(5, 1, 4), full(7, 1, 4)}},
		{two, nil, 2, two}, {two, []api.Desc{}, 9, two}, {nil, nil, 2, nil}, {nil, list(3, 1, 2), 2, list(1, 3)}, {nil, list(3), 0, nil}, {nil, list(3), -1, nil}, {nil, list(3), math.MinInt, nil},
		{two, []api.Desc{full(7, 1, 4), full(1, 1, 4)}, 2, []api.Desc{full(1, 1, 4), two[1]}}, {two, []api.Desc{full(1, 1, 5), full(1, 1, 6), full(2, 0, 0), full(2, 2, 9)}, 2, []api.Desc{two[0], full(2, 2, 9)}},
		{two, []api.Desc{full(9, 1, 0), full(4, 0, 0), full(4, 1, 3), full(5, 1, 3)}, 3, append(desctest.Copied(two), full(4, 1, 3))}, {two, []api.Desc{full(4, 1, 3), full(4, 1, 2), full(4, 1, 3), full(4, 2, 7)}, 3, append(desctest.Copied(two), full(4, 2, 7))}, {two, []api.Desc{bare(4, 1, 3), full(4, 1, 3)}, 3, append(desctest.Copied(two), bare(4, 1, 3))},
	} {
		if got := Fill(x.l, x.got, 9, x.room); !desctest.Same(got, x.want) {
			t.Error(i, x, got)
		}
	}
}

func TestExampleOfViews(t *testing.T) {
	l := []api.Desc{full(1, 1, 5), full(2, 1, 1)}
	if got := Admit(l, full(7, 1, 0), 0, 2); !desctest.Same(got, []api.Desc{full(2, 1, 1), full(7, 1, 0)}) {
		t.Error(got)
	}
	if got := Fill(l, []api.Desc{full(7, 1, 0)}, 0, 2); !desctest.Same(got, l) {
		t.Error(got)
	}
}

// smallViews are all views for self and that room of the nodes 0 to 3, with few incarnations and ages.
func smallViews(self uint8, room int) [][]api.Desc {
	views := [][]api.Desc{{}}
	for node := range uint8(4) {
		for _, l := range views {
			for code := range 4 {
				if more := append(desctest.Copied(l), full(node, uint16(1+code%2), uint8(3+code/2))); desctest.IsView(more, self, room) {
					views = append(views, more)
				}
			}
		}
	}
	return views
}

func TestSmallViews(t *testing.T) {
	for self := range uint8(5) {
		for room := range 4 {
			for _, l := range smallViews(self, room) {
				for code := range 5 * 3 * 4 {
					d := full(uint8(code%5), uint16(code/5%3), uint8(2+code/15))
					if got := Admit(l, d, self, room); !desctest.Same(got, admit(l, d, self, room)) {
						t.Fatal(l, d, self, room, got)
					}
					two := []api.Desc{d, full(4-d.Node, 2, 3)}
					if got := Fill(l, two, self, room); !desctest.Same(got, fill(l, two, self, room)) {
						t.Fatal(l, two, self, room, got)
					}
				}
			}
		}
	}
}

func TestDrawnViews(t *testing.T) {
	draw := rand.New(rand.NewSource(1))
	for i := range 20000 {
		bound := 3 + draw.Intn(9)
		if i%200 == 0 {
			bound = 256
		}
		self, room := uint8(draw.Intn(bound)), draw.Intn(bound)
		l, d, got := desctest.View(draw, self, room, bound), desctest.One(draw, bound), desctest.Any(draw, 6, bound)
		if out := Admit(l, d, self, room); !desctest.Same(out, admit(l, d, self, room)) {
			t.Fatal(l, d, self, room, out)
		}
		if out := Fill(l, got, self, room); !desctest.Same(out, fill(l, got, self, room)) {
			t.Fatal(l, got, self, room, out)
		}
	}
}

// P11.4

func TestConsequencesForViews(t *testing.T) {
	draw := rand.New(rand.NewSource(2))
	for range 20000 {
		bound := 3 + draw.Intn(9)
		self, room := uint8(draw.Intn(bound)), draw.Intn(8)
		l, d, got := desctest.View(draw, self, room, bound), desctest.One(draw, bound), desctest.Any(draw, 6, bound)
		in, filled := Admit(l, d, self, room), Fill(l, got, self, room)
		if !desctest.IsView(in, self, room) || !desctest.IsView(filled, self, room) {
			t.Fatal("no view", l, d, got, self, room, in, filled)
		}
		if d.Node != self && d.Inc > 0 && room > 0 && desctest.Find(in, d.Node) < 0 {
			t.Fatal("not there", l, d, self, room, in)
		}
		for _, x := range l {
			if desctest.Find(filled, x.Node) < 0 {
				t.Fatal("dropped", l, got, self, room, filled)
			}
		}
	}
}

func TestGivenUpAfterItsTicks(t *testing.T) {
	sent := list(9, 4)
	for left := 1; left < 256; left++ {
		w := Start(3, uint8(left), sent)
		for n := 1; n <= left; n++ {
			next, gone, ok := Tick(w)
			if ok != (n == left) || ok != (gone == 3) || ok != isNone(next) {
				t.Fatal(left, n, next, gone, ok)
			}
			w = next
		}
		if _, _, ok := Answer(w, 3); ok {
			t.Fatal("given up, and answered", left)
		}
	}
}

func TestAnsweredOrGivenUp(t *testing.T) {
	for left := 1; left < 40; left++ {
		for answer := range left {
			w := Start(3, uint8(left), list(9, 4))
			for range answer {
				w, _, _ = Tick(w)
				w, _, _ = Answer(w, 2)
			}
			w, back, ok := Answer(w, 3)
			if !desctest.Same(back, list(9, 4)) || !ok {
				t.Fatal(left, answer, w, back, ok)
			}
			for range left {
				next, gone, ok := Tick(w)
				if !isNone(next) || gone != 0 || ok {
					t.Fatal("answered, and given up", left, answer, next, gone, ok)
				}
				w = next
			}
		}
	}
}

// R1

func TestOtherListsReturn(t *testing.T) {
	draw := rand.New(rand.NewSource(3))
	for range 300 {
		l, got, d := desctest.Any(draw, 30, 256), desctest.Any(draw, 30, 256), desctest.One(draw, 256)
		for _, room := range []int{math.MinInt, -1, 0, 1, 3, 255, 256, math.MaxInt} {
			Admit(l, d, uint8(draw.Intn(256)), room)
			Admit(got, d, d.Node, room)
			Fill(l, got, uint8(draw.Intn(256)), room)
			Fill(nil, got, 0, room)
		}
	}
}

// A view that is longer than the room has as many as before, with d in the place of the oldest one.
func TestAdmitWhereThereIsMoreThanTheRoom(t *testing.T) {
	l := []api.Desc{full(1, 1, 2), full(3, 1, 6), full(5, 1, 4)}
	for _, room := range []int{-1, 0, 1, 2} {
		if got := Admit(l, full(4, 1, 0), 9, room); !desctest.Same(got, []api.Desc{l[0], full(4, 1, 0), l[2]}) {
			t.Error(room, got)
		}
		if got := Fill(l, []api.Desc{full(4, 1, 0), full(5, 1, 0)}, 9, room); !desctest.Same(got, []api.Desc{l[0], l[1], full(5, 1, 0)}) {
			t.Error(room, got)
		}
	}
}

// R3

// results are the lists that all functions return for these.
func results(l, got, one []api.Desc) [][]api.Desc {
	ticked, _, _ := Tick(waits(3, 2, got))
	_, back, _ := Answer(waits(3, 2, got), 3)
	stays, _, _ := Answer(waits(3, 2, got), 4)
	out := [][]api.Desc{
		Start(3, 2, got).Sent, ticked.Sent, back, stays.Sent,
		Fill(l, got, 5, len(l)), Fill(l, got, 5, 20), Fill(l, nil, 5, 20), Fill(nil, got, 5, 20),
	}
	for _, d := range [][]api.Desc{one, l, {{Node: 5, Inc: 1}}} {
		for i := range d {
			out = append(out, Admit(l, d[i], 5, len(l)), Admit(l, d[i], 5, 20), Admit(nil, d[i], 5, 2))
		}
	}
	return out
}

func TestMemory(t *testing.T) {
	draw := rand.New(rand.NewSource(4))
	for range 300 {
		args := [][]api.Desc{desctest.View(draw, 5, 6, 10), desctest.Any(draw, 6, 10), {desctest.One(draw, 12)}}
		fault := desctest.Fault(args, func(args [][]api.Desc) [][]api.Desc { return results(args[0], args[1], args[2]) })
		if fault != "" {
			t.Fatal(fault, args)
		}
	}
}
