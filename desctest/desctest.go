// Package desctest is what the tests of packages with views share: descriptors that are easily told apart, the terms of views worked out without package desc, drawn views and lists, and all of the memory of a list.
package desctest

import (
	"cmp"
	"slices"

	"grapevine/api"
)

// Draw is whatever a test draws numbers with.
type Draw interface {
	Intn(n int) int
	Perm(n int) []int
}

// Span is short for a span in tables.
func Span(from, to int32) api.Span {
	return api.Span{From: from, To: to}
}

// Full is a descriptor with a filter that tells it from others.
func Full(node uint8, inc uint16, age uint8) api.Desc {
	return api.Desc{Node: node, Inc: inc, Age: age, Filter: api.Filter{Span(int32(node), int32(inc)), Span(int32(age), 7)}}
}

// Bare is a descriptor without a filter.
func Bare(node uint8, inc uint16, age uint8) api.Desc {
	return api.Desc{Node: node, Inc: inc, Age: age}
}

// List is descriptors of these nodes, of incarnation 1 and age 4.
func List(nodes ...uint8) []api.Desc {
	var out []api.Desc
	for _, node := range nodes {
		out = append(out, Full(node, 1, 4))
	}
	return out
}

// Same reports whether a and b have the same descriptors.
func Same(a, b []api.Desc) bool {
	return slices.EqualFunc(a, b, func(a, b api.Desc) bool {
		return a.Node == b.Node && a.Inc == b.Inc && a.Age == b.Age && slices.Equal(a.Filter, b.Filter)
	})
}

// Copied is l in memory of its own, with the filters.
func Copied(l []api.Desc) []api.Desc {
	var out []api.Desc
	for _, d := range l {
		d.Filter = append(api.Filter{}, d.Filter...)
		out = append(out, d)
	}
	return out
}

// Find is where the first descriptor of the node stands in l, or -1: l need not be a view.
func Find(l []api.Desc, node uint8) int {
	return slices.IndexFunc(l, func(d api.Desc) bool { return d.Node == node })
}

// Without is l without the node.
func Without(l []api.Desc, node uint8) []api.Desc {
	return slices.DeleteFunc(Copied(l), func(d api.Desc) bool { return d.Node == node })
}

// With is l with d, in the place of that of its node or where it belongs.
func With(l []api.Desc, d api.Desc) []api.Desc {
	return sorted(append(Without(l, d.Node), d))
}

// IsView reports whether l is a view for self and that room, looking at each pair.
func IsView(l []api.Desc, self uint8, room int) bool {
	for i := range l {
		if l[i].Node == self || l[i].Inc < 1 {
			return false
		}
		for j := range i {
			if l[j].Node >= l[i].Node {
				return false
			}
		}
	}
	return room >= 0 && len(l) <= room
}

// Accepts reports whether d may be put into the view l: a newer one of a node that is there, or another one if there is room.
func Accepts(l []api.Desc, d api.Desc, self uint8, room int) bool {
	if d.Node == self || d.Inc == 0 {
		return false
	}
	at := Find(l, d.Node)
	if at < 0 {
		return len(l) < room
	}
	// One number that is greater for the newer one.
	return int(d.Inc)*256-int(d.Age) > int(l[at].Inc)*256-int(l[at].Age)
}

// View is a drawn view for self and that room of nodes below the bound, full about every other time.
func View(draw Draw, self uint8, room, bound int) []api.Desc {
	many := room
	if draw.Intn(2) == 0 {
		many = draw.Intn(room + 1)
	}
	var out []api.Desc
	for _, node := range draw.Perm(bound) {
		if len(out) < many && node != int(self) {
			out = append(out, Full(uint8(node), uint16(1+draw.Intn(3)), uint8(draw.Intn(4))))
		}
	}
	return sorted(out)
}

// Any is a drawn list of at most so many descriptors of nodes below the bound: in no order, some nodes several times, some without an incarnation or without a filter.
func Any(draw Draw, many, bound int) []api.Desc {
	var out []api.Desc
	for range draw.Intn(many + 1) {
		out = append(out, One(draw, bound))
	}
	return out
}

// One is any drawn descriptor of a node below the bound.
func One(draw Draw, bound int) api.Desc {
	d := Full(uint8(draw.Intn(bound)), uint16(draw.Intn(5)), uint8(draw.Intn(5)))
	if draw.Intn(8) == 0 {
		d.Filter = nil
	}
	return d
}

// Roomy is l with spare capacity that is not zero, also behind its filters.
func Roomy(l []api.Desc) []api.Desc {
	whole := append(Copied(l), Full(9, 9, 9), Full(9, 9, 9), Full(9, 9, 9))
	for i := range l {
		whole[i].Filter = RoomyFilter(whole[i].Filter)
	}
	return whole[:len(l)]
}

// RoomyFilter is f with spare capacity that is not zero.
func RoomyFilter(f api.Filter) api.Filter {
	return append(slices.Clone(f), Span(77, 77), Span(77, 77), Span(77, 77))[:len(f)]
}

// Fault calls with copies of args, and with lists that have spare capacity, and tells what is wrong with the results of call, if anything: that an argument was changed, that the results hang on more than the arguments, or that they share memory with an argument or with one another.
func Fault(args [][]api.Desc, call func(args [][]api.Desc) [][]api.Desc) string {
	want, given := call(each(args, Copied)), each(args, Roomy)
	before := memory(given)
	got := call(given)
	if !slices.Equal(memory(given), before) {
		return "an argument was changed"
	}
	if !slices.EqualFunc(got, want, Same) {
		return "the same arguments, and another result"
	}
	mark(given, 1<<20)
	if !slices.EqualFunc(got, want, Same) {
		return "a result has memory of an argument"
	}
	// Memory that is marked twice has lost its first mark.
	mark(got, 0)
	if !marked(got, 0) {
		return "results share memory"
	}
	if !marked(given, 1<<20) {
		return "a result has spare memory of an argument"
	}
	return ""
}

func each(lists [][]api.Desc, f func(l []api.Desc) []api.Desc) [][]api.Desc {
	var out [][]api.Desc
	for _, l := range lists {
		out = append(out, f(l))
	}
	return out
}

// memory is all of the memory of lists, up to their capacity and those of their filters, as numbers.
func memory(lists [][]api.Desc) []int64 {
	var out []int64
	for _, l := range lists {
		for _, d := range l[:cap(l)] {
			out = append(out, int64(d.Node), int64(d.Inc), int64(d.Age), int64(len(d.Filter)), int64(cap(d.Filter)))
			for _, s := range d.Filter[:cap(d.Filter)] {
				out = append(out, int64(s.From), int64(s.To))
			}
		}
	}
	return out
}

// mark writes another number, counted up from first, into each place of the memory of lists.
func mark(lists [][]api.Desc, first int32) {
	at := first
	places(lists, func(d *api.Desc, s *api.Span) bool {
		at++
		if s != nil {
			*s = Span(at, -at)
		} else {
			d.Node, d.Inc, d.Age = uint8(at>>16), uint16(at), 99
		}
		return true
	})
}

// marked reports whether each place of the memory of lists still has its number.
func marked(lists [][]api.Desc, first int32) bool {
	at := first
	return places(lists, func(d *api.Desc, s *api.Span) bool {
		at++
		if s != nil {
			return *s == Span(at, -at)
		}
		return d.Node == uint8(at>>16) && d.Inc == uint16(at) && d.Age == 99
	})
}

// places calls f with each descriptor and each span in the memory of lists, as long as that answers true.
func places(lists [][]api.Desc, f func(d *api.Desc, s *api.Span) bool) bool {
	for _, l := range lists {
		l = l[:cap(l)]
		for i := range l {
			if !f(&l[i], nil) {
				return false
			}
			spans := l[i].Filter[:cap(l[i].Filter)]
			for j := range spans {
				if !f(&l[i], &spans[j]) {
					return false
				}
			}
		}
	}
	return true
}

// sorted is l in increasing order of nodes.
func sorted(l []api.Desc) []api.Desc {
	slices.SortFunc(l, func(a, b api.Desc) int { return cmp.Compare(a.Node, b.Node) })
	return l
}
