package desctest

import (
	"math/rand"
	"slices"
	"testing"

	"grapevine/api"
)

type lists = [][]api.Desc

func TestFault(t *testing.T) {
	count := uint8(0)
	for i, x := range []struct {
		want string
		call func(args lists) lists
	}{
		{"", func(args lists) lists { return nil }},
		{"", func(args lists) lists { return each(args, Copied) }},
		{"", func(args lists) lists { return append(each(args, Copied), each(args, Copied)...) }},
		{"an argument was changed", func(args lists) lists { args[1][0].Age++; return nil }},
		{"an argument was changed", func(args lists) lists { args[0][1].Filter[1].To++; return nil }},
		{"an argument was changed", func(args lists) lists { _ = append(args[0], Full(7, 7, 7)); return nil }},
		{"an argument was changed", func(args lists) lists { _ = append(args[0][0].Filter, Span(7, 7)); return nil }},
		{"the same arguments, and another result", func(args lists) lists { count++; return lists{List(count)} }},
		{"the same arguments, and another result", func(args lists) lists { return lists{Copied(args[0][:min(3, cap(args[0]))])} }},
		{"a result has memory of an argument", func(args lists) lists { return lists{args[1]} }},
		{"a result has memory of an argument", func(args lists) lists { return lists{slices.Clone(args[0])} }},
		{"a result has spare memory of an argument", func(args lists) lists { return lists{args[0][:0]} }},
		{"a result has spare memory of an argument", func(args lists) lists { return lists{{{Filter: args[0][1].Filter[:0]}}} }},
		{"results share memory", func(args lists) lists { l := Copied(args[0]); return lists{l, l} }},
		{"results share memory", func(args lists) lists { l := Copied(args[0]); return lists{l[:1:1], slices.Clone(l[:1])} }},
		{"results share memory", func(args lists) lists { l := Copied(args[0]); l[1].Filter = l[0].Filter; return lists{l} }},
		{"results share memory", func(args lists) lists { l := Copied(args[0]); return lists{l[:1], l[1:]} }},
	} {
		if got := Fault(lists{List(1, 2), List(3), nil}, x.call); got != x.want {
			t.Error(i, got)
		}
	}
}

func TestTerms(t *testing.T) {
	l := List(1, 3)
	if !Same(l, Copied(l)) || !Same(l, Roomy(l)) || Same(l, l[:1]) || Same(l, List(1, 2)) || Same(List(1), []api.Desc{Bare(1, 1, 4)}) || Same(List(1), []api.Desc{Full(1, 1, 5)}) {
		t.Error("Same")
	}
	if Find(l, 3) != 1 || Find(l, 2) != -1 || !Same(Without(l, 1), List(3)) || !Same(Without(l, 2), l) || !Same(With(l, List(2)[0]), List(1, 2, 3)) || !Same(With(l, Full(3, 2, 2)), []api.Desc{l[0], Full(3, 2, 2)}) {
		t.Error("Find, Without, With")
	}
	if !IsView(l, 2, 2) || IsView(l, 3, 2) || IsView(l, 2, 1) || IsView(List(3, 1), 2, 2) || IsView(List(1, 1), 2, 2) || IsView([]api.Desc{Bare(1, 0, 0)}, 2, 2) || IsView(nil, 2, -1) {
		t.Error("IsView")
	}
	if Accepts(l, Bare(2, 1, 0), 9, 2) || !Accepts(l, Bare(2, 1, 0), 9, 3) || Accepts(l, Bare(2, 1, 0), 2, 3) || Accepts(l, Bare(2, 0, 0), 9, 3) || !Accepts(l, Bare(3, 1, 3), 9, 2) || Accepts(l, Bare(3, 1, 4), 9, 3) || !Accepts(l, Bare(3, 2, 255), 9, 2) {
		t.Error("Accepts")
	}
}

func TestDrawn(t *testing.T) {
	draw := rand.New(rand.NewSource(1))
	fulls, left := 0, 0
	for range 400 {
		l := View(draw, 3, 5, 9)
		if !IsView(l, 3, 5) || Find(l, 9) >= 0 {
			t.Fatal(l)
		}
		if len(l) == 5 {
			fulls++
		}
		if any := Any(draw, 4, 9); len(any) > 4 || slices.ContainsFunc(any, func(d api.Desc) bool { return d.Node > 8 }) {
			t.Fatal(any)
		}
		if One(draw, 9).Inc == 0 {
			left++
		}
	}
	if fulls < 100 || fulls > 300 || left < 40 || left > 200 {
		t.Error(fulls, left)
	}
}
