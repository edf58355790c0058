package seen

import (
	"math"
	"math/rand"
	"testing"

	"grapevine/api"
)

const most = math.MaxUint32

func id(node uint8, inc uint16, seq uint32) api.ID {
	return api.ID{Node: node, Inc: inc, Seq: seq}
}

func rowOf(inc uint16, prefix uint32, bits uint64) api.Row {
	return api.Row{Inc: inc, Prefix: prefix, Bits: bits}
}

var (
	windows  = []int{math.MinInt, -64, -1, 0, 1, 2, 3, 4, 31, 32, 33, 62, 63, 64, 65, 128, 256 + 4, 1<<32 + 4, math.MaxInt}
	incs     = []uint16{0, 1, 2, 255, 256, 1<<15 - 1, 1 << 15, api.MaxInc - 1, api.MaxInc}
	prefixes = []uint32{0, 1, 2, 3, 63, 64, 65, 1<<16 - 1, 1 << 16, 1<<31 - 1, 1 << 31, most - 65, most - 64, most - 63, most - 62, most - 3, most - 2, most - 1, most}
	patterns = []uint64{0, 1, 2, 3, 4, 5, 6, 7, 8, 10, 12, 14, 1 << 31, 1 << 32, 1<<32 - 2, 1 << 61, 1 << 62, 1 << 63, 1<<62 - 2, 1<<63 - 2, math.MaxUint64 - 1, math.MaxUint64, 0xaaaaaaaaaaaaaaaa, 0x5555555555555554}
)

// rows are rows of each of those incarnations, prefixes and bits, right ones and others.
func rows() []api.Row {
	list := []api.Row{}
	for _, inc := range incs {
		for _, prefix := range prefixes {
			for _, bits := range patterns {
				list = append(list, rowOf(inc, prefix, bits))
			}
		}
	}
	return list
}

// isSet reports whether the bit i is 1.
func isSet(r api.Row, i int) bool {
	return r.Bits&(uint64(1)<<i) != 0
}

// isRight is the chapter's term by itself, bit by bit.
func isRight(r api.Row, window int) bool {
	if window < 1 || window > 64 {
		return false
	}
	if r.Inc == 0 {
		return r.Prefix == 0 && r.Bits == 0
	}
	for i := range 64 {
		if isSet(r, i) && (i == 0 || i >= window || int64(r.Prefix)+1+int64(i) > most) {
			return false
		}
	}
	return true
}

// isSeen is the chapter's term by itself, bit by bit.
func isSeen(r api.Row, seq uint32) bool {
	found := seq >= 1 && seq <= r.Prefix
	for i := range 64 {
		found = found || isSet(r, i) && int64(seq) == int64(r.Prefix)+1+int64(i)
	}
	return found
}

// may is what P8.2 says, by itself.
func may(r api.Row, x api.ID, window int) bool {
	switch {
	case window < 1, window > 64, x.Inc == 0, x.Seq == 0, x.Inc < r.Inc:
		return false
	case x.Inc > r.Inc:
		return int64(x.Seq) <= int64(window)
	}
	return !isSeen(r, x.Seq) && int64(x.Seq) <= int64(r.Prefix)+int64(window)
}

// record is the chapter's term by itself, bit by bit.
func record(r api.Row, x api.ID) api.Row {
	if x.Inc > r.Inc {
		r = api.Row{Inc: x.Inc}
	}
	for i := range 64 {
		if int64(x.Seq) == int64(r.Prefix)+1+int64(i) {
			r.Bits |= uint64(1) << i
		}
	}
	for r.Bits%2 == 1 {
		r.Prefix++
		r.Bits /= 2
	}
	return r
}

// around are numbers at the edges of a row and of its windows, and far from them.
func around(r api.Row) []uint32 {
	list := []uint32{0, 1, 2, 3, 4, 5, 31, 32, 33, 62, 63, 64, 65, 66, 1 << 16, 1 << 31, most - 64, most - 1, most}
	for d := int64(-3); d <= 67; d++ {
		if seq := int64(r.Prefix) + d; seq >= 0 && seq <= most {
			list = append(list, uint32(seq))
		}
	}
	return list
}

// P8.1

func TestRight(t *testing.T) {
	for i, c := range []struct {
		r      api.Row
		window int
		want   bool
	}{
		{api.Row{}, 1, true}, {api.Row{}, 64, true}, {api.Row{}, 0, false}, {api.Row{}, 65, false}, {api.Row{}, -1, false}, {api.Row{}, math.MinInt, false}, {api.Row{}, math.MaxInt, false}, {api.Row{}, 256 + 4, false}, {api.Row{}, 1<<32 + 4, false},
		{rowOf(0, 1, 0), 4, false}, {rowOf(0, 0, 2), 4, false}, {rowOf(0, most, 2), 4, false},
		{rowOf(1, 0, 0), 1, true}, {rowOf(1, 0, 0), 0, false}, {rowOf(1, 0, 0), 65, false}, {rowOf(1, 0, 1), 4, false}, {rowOf(1, 0, 3), 4, false}, {rowOf(1, 0, 2), 4, true},
		{rowOf(1, 0, 2), 1, false}, {rowOf(1, 0, 2), 2, true}, {rowOf(1, 0, 8), 4, true}, {rowOf(1, 0, 16), 4, false}, {rowOf(1, 0, 16), 5, true}, {rowOf(1, 0, 14), 4, true}, {rowOf(1, 7, 30), 4, false},
		{rowOf(1, 0, 1<<63), 64, true}, {rowOf(1, 0, 1<<63), 63, false}, {rowOf(1, 0, 1<<62), 63, true}, {rowOf(1, 0, math.MaxUint64-1), 64, true}, {rowOf(1, 0, math.MaxUint64), 64, false},
		{rowOf(1, most, 0), 64, true}, {rowOf(1, most, 2), 64, false}, {rowOf(1, most, 1), 64, false}, {rowOf(1, most-1, 0), 64, true}, {rowOf(1, most-1, 2), 64, false}, {rowOf(1, most-2, 2), 64, true}, {rowOf(1, most-2, 4), 64, false}, {rowOf(1, most-2, 6), 64, false},
		{rowOf(1, most-64, 1<<63), 64, true}, {rowOf(1, most-63, 1<<63), 64, false}, {rowOf(1, most-63, 1<<62), 64, true}, {rowOf(1, most-64, 1<<63), 63, false}, {rowOf(1, most-5, 8), 3, false}, {rowOf(1, most-3, 4), 64, true}, {rowOf(1, most-3, 8), 64, false},
		{rowOf(api.MaxInc, 9, 6), 3, true}, {rowOf(api.MaxInc, 9, 7), 3, false}, {rowOf(1<<8, 9, 6), 3, true}, {rowOf(1, 1<<31, 6), 3, true},
	} {
		if got := Right(c.r, c.window); got != c.want {
			t.Error(i, c, got)
		}
	}
}

func TestRightOfMany(t *testing.T) {
	for _, r := range rows() {
		for _, window := range windows {
			if got := Right(r, window); got != isRight(r, window) {
				t.Fatal(r, window, got)
			}
		}
	}
}

func TestRightOfEachBit(t *testing.T) {
	for i := range 64 {
		for window := -1; window <= 66; window++ {
			for _, prefix := range prefixes {
				r := rowOf(3, prefix, uint64(1)<<i)
				if got := Right(r, window); got != isRight(r, window) {
					t.Fatal(r, window, got)
				}
			}
		}
	}
}

func TestHas(t *testing.T) {
	for i, c := range []struct {
		r    api.Row
		x    api.ID
		want bool
	}{
		{api.Row{}, id(0, 1, 1), false}, {api.Row{}, id(0, 0, 1), false}, {api.Row{}, api.ID{}, false},
		{rowOf(1, 0, 2), id(0, 1, 2), true}, {rowOf(1, 0, 2), id(0, 1, 1), false}, {rowOf(1, 0, 2), id(0, 1, 3), false}, {rowOf(1, 0, 2), id(0, 2, 2), false}, {rowOf(2, 0, 2), id(0, 1, 2), false}, {rowOf(1, 0, 2), id(0, 0, 2), false},
		{rowOf(1, 2, 0), id(0, 1, 1), true}, {rowOf(1, 2, 0), id(0, 1, 2), true}, {rowOf(1, 2, 0), id(0, 1, 3), false}, {rowOf(1, 2, 0), id(0, 1, 0), false}, {rowOf(1, 0, 0), id(0, 1, 0), false}, {rowOf(1, most, 0), id(0, 1, 0), false},
		{rowOf(1, 2, 0), id(7, 1, 2), true}, {rowOf(1, 2, 0), id(255, 1, 2), true}, {rowOf(1, 2, 8), id(9, 1, 6), true}, {rowOf(1, 2, 8), id(9, 1, 5), false}, {rowOf(1, 2, 8), id(9, 1, 7), false},
		{rowOf(1, 0, 1<<63), id(0, 1, 64), true}, {rowOf(1, 0, 1<<63), id(0, 1, 63), false}, {rowOf(1, 0, 1<<63), id(0, 1, 65), false}, {rowOf(1, 0, math.MaxUint64-1), id(0, 1, 64), true}, {rowOf(1, 0, math.MaxUint64-1), id(0, 1, 65), false}, {rowOf(1, 0, math.MaxUint64-1), id(0, 1, 66), false}, {rowOf(1, 0, math.MaxUint64-1), id(0, 1, 2), true}, {rowOf(1, 0, math.MaxUint64-1), id(0, 1, 1), false},
		{rowOf(1, 0, 2), id(0, 1, 2+64), false}, {rowOf(1, 0, 2), id(0, 1, 2+32), false}, {rowOf(1, 0, 2), id(0, 1, 2+256), false}, {rowOf(1, 100, 2), id(0, 1, 102), true}, {rowOf(1, 100, 2), id(0, 1, 100-62), true},
		{rowOf(1, most, 0), id(0, 1, most), true}, {rowOf(1, most, 0), id(0, 1, 1), true}, {rowOf(1, most-1, 0), id(0, 1, most), false}, {rowOf(1, most-2, 2), id(0, 1, most), true}, {rowOf(1, most-2, 2), id(0, 1, most-1), false}, {rowOf(1, 1<<31-1, 2), id(0, 1, 1<<31+1), true}, {rowOf(1, 1<<31-1, 2), id(0, 1, 1<<31), false},
		{rowOf(api.MaxInc, 1, 0), id(0, api.MaxInc, 1), true}, {rowOf(256, 1, 0), id(0, 256, 1), true}, {rowOf(256, 1, 0), id(0, 512, 1), false}, {rowOf(257, 1, 0), id(0, 1, 1), false},
		{rowOf(0, 5, 0), id(0, 0, 3), false}, {rowOf(0, 0, 2), id(0, 0, 2), false},
	} {
		if got := Has(c.r, c.x); got != c.want {
			t.Error(i, c, got)
		}
	}
}

func TestHasOfMany(t *testing.T) {
	for _, r := range rows() {
		if !isRight(r, 64) {
			continue
		}
		for _, seq := range around(r) {
			for _, inc := range incs {
				want := inc > 0 && inc == r.Inc && isSeen(r, seq)
				if got := Has(r, id(4, inc, seq)); got != want {
					t.Fatal(r, inc, seq, got)
				}
			}
		}
	}
}

func TestMark(t *testing.T) {
	if got, want := Mark(5, rowOf(2, 1, 0)), (api.Mark{Node: 5, Inc: 2, Seq: 1}); got != want {
		t.Error(got)
	}
	for _, r := range rows() {
		for _, node := range []uint8{0, 1, 11, 12, 255} {
			if got, want := Mark(node, r), (api.Mark{Node: node, Inc: r.Inc, Seq: r.Prefix}); got != want {
				t.Fatal(node, r, got)
			}
		}
	}
}

// P8.2

func TestMay(t *testing.T) {
	for i, c := range []struct {
		r      api.Row
		x      api.ID
		window int
		want   bool
	}{
		{api.Row{}, id(0, 1, 1), 4, true}, {api.Row{}, id(0, 1, 4), 4, true}, {api.Row{}, id(0, 1, 5), 4, false}, {api.Row{}, id(0, 0, 1), 4, false}, {api.Row{}, id(0, 1, 0), 4, false}, {api.Row{}, api.ID{}, 4, false}, {api.Row{}, id(0, 9, 4), 4, true}, {api.Row{}, id(0, api.MaxInc, 64), 64, true}, {api.Row{}, id(0, 1, 65), 64, false}, {api.Row{}, id(0, 1, most), 64, false},
		{api.Row{}, id(0, 1, 1), 0, false}, {api.Row{}, id(0, 1, 1), -1, false}, {api.Row{}, id(0, 1, 1), 65, false}, {api.Row{}, id(0, 1, 1), math.MaxInt, false}, {api.Row{}, id(0, 1, 1), math.MinInt, false}, {api.Row{}, id(0, 1, 1), 256 + 4, false}, {api.Row{}, id(0, 1, 1), 1<<32 + 4, false}, {api.Row{}, id(0, 1, 1), 1, true}, {api.Row{}, id(0, 1, 2), 1, false},
		{rowOf(1, 2, 0), id(0, 1, 1), 4, false}, {rowOf(1, 2, 0), id(0, 1, 2), 4, false}, {rowOf(1, 2, 0), id(0, 1, 3), 4, true}, {rowOf(1, 2, 0), id(0, 1, 6), 4, true}, {rowOf(1, 2, 0), id(0, 1, 7), 4, false}, {rowOf(1, 2, 0), id(0, 1, 0), 4, false}, {rowOf(1, 2, 0), id(0, 1, 3), 0, false}, {rowOf(1, 2, 0), id(0, 1, 3), 65, false},
		{rowOf(1, 2, 8), id(0, 1, 6), 4, false}, {rowOf(1, 2, 8), id(0, 1, 5), 4, true}, {rowOf(1, 2, 8), id(0, 1, 7), 4, false}, {rowOf(1, 2, 8), id(0, 1, 7), 5, true}, {rowOf(1, 2, 8), id(77, 1, 5), 4, true},
		{rowOf(2, 2, 8), id(0, 1, 1), 4, false}, {rowOf(2, 2, 8), id(0, 1, 3), 4, false}, {rowOf(2, 2, 8), id(0, 1, 6), 4, false}, {rowOf(2, 2, 8), id(0, 0, 3), 4, false}, {rowOf(256, 2, 8), id(0, 255, 3), 4, false}, {rowOf(1<<15, 2, 8), id(0, 1<<15-1, 3), 4, false},
		{rowOf(2, 2, 8), id(0, 3, 1), 4, true}, {rowOf(2, 2, 8), id(0, 3, 2), 4, true}, {rowOf(2, 2, 8), id(0, 3, 4), 4, true}, {rowOf(2, 2, 8), id(0, 3, 5), 4, false}, {rowOf(2, 2, 8), id(0, 3, 6), 4, false}, {rowOf(2, 2, 8), id(0, 3, 0), 4, false}, {rowOf(2, 100, 8), id(0, 3, 101), 4, false}, {rowOf(2, 100, 8), id(0, 3, 1), 0, false}, {rowOf(2, 100, 8), id(0, 3, 1), 65, false}, {rowOf(255, 2, 8), id(0, 256, 3), 4, true}, {rowOf(1<<15-1, 2, 8), id(0, 1<<15, 3), 4, true},
		{rowOf(1, 0, math.MaxUint64-1), id(0, 1, 1), 64, true}, {rowOf(1, 0, math.MaxUint64-1), id(0, 1, 64), 64, false}, {rowOf(1, 0, math.MaxUint64-1), id(0, 1, 65), 64, false}, {rowOf(1, 0, 1<<62), id(0, 1, 64), 64, true},
		{rowOf(1, most, 0), id(0, 1, most), 64, false}, {rowOf(1, most, 0), id(0, 1, 1), 64, false}, {rowOf(1, most-1, 0), id(0, 1, most), 64, true}, {rowOf(1, most-1, 0), id(0, 1, most), 1, true}, {rowOf(1, most-2, 0), id(0, 1, most), 1, false}, {rowOf(1, most-2, 0), id(0, 1, most), 2, true}, {rowOf(1, most-2, 2), id(0, 1, most), 2, false}, {rowOf(1, most-2, 2), id(0, 1, most-1), 2, true}, {rowOf(1, most-10, 0), id(0, 1, most-9), 64, true}, {rowOf(1, most-10, 0), id(0, 1, 3), 64, false},
		{rowOf(1, most, 0), id(0, 2, 1), 64, true}, {rowOf(1, most, 0), id(0, 2, most), 64, false}, {rowOf(1, 1<<31-1, 0), id(0, 1, 1<<31), 1, true}, {rowOf(1, 1<<31-1, 0), id(0, 1, 1<<31+1), 1, false},
	} {
		if got := May(c.r, c.x, c.window); got != c.want {
			t.Error(i, c, got)
		}
	}
}

func TestMayAndTakeOfMany(t *testing.T) {
	for _, r := range rows() {
		for _, window := range windows {
			if window >= 1 && window <= 64 && !isRight(r, window) {
				continue
			}
			for _, inc := range []uint16{0, 1, 2, 256, r.Inc, r.Inc + 1, api.MaxInc} {
				for _, seq := range around(r) {
					x := id(uint8(seq), inc, seq)
					want, wantRow := may(r, x, window), r
					if want {
						wantRow = record(r, x)
					}
					if got := May(r, x, window); got != want {
						t.Fatal("may", r, x, window, got)
					}
					if got, ok := Take(r, x, window); ok != want || got != wantRow {
						t.Fatal("take", r, x, window, got, ok)
					}
				}
			}
		}
	}
}

// P8.3

func TestExamples(t *testing.T) {
	r := api.Row{}
	for i, c := range []struct {
		x    api.ID
		want api.Row
		ok   bool
	}{
		{id(0, 1, 2), rowOf(1, 0, 2), true}, {id(0, 1, 1), rowOf(1, 2, 0), true}, {id(0, 1, 2), rowOf(1, 2, 0), false}, {id(0, 1, 7), rowOf(1, 2, 0), false}, {id(0, 1, 6), rowOf(1, 2, 8), true},
		{id(0, 2, 1), rowOf(2, 1, 0), true}, {id(0, 1, 3), rowOf(2, 1, 0), false},
	} {
		got, ok := Take(r, c.x, 4)
		if got != c.want || ok != c.ok {
			t.Error(i, c, got, ok)
		}
		r = got
	}
	if got, want := Mark(5, r), (api.Mark{Node: 5, Inc: 2, Seq: 1}); got != want {
		t.Error(got)
	}
}

func TestTake(t *testing.T) {
	for i, c := range []struct {
		r      api.Row
		x      api.ID
		window int
		want   api.Row
		ok     bool
	}{
		{api.Row{}, id(0, 1, 1), 1, rowOf(1, 1, 0), true}, {api.Row{}, id(0, 1, 2), 2, rowOf(1, 0, 2), true}, {api.Row{}, id(0, 7, 64), 64, rowOf(7, 0, 1<<63), true}, {api.Row{}, id(0, 1, 1), 0, api.Row{}, false}, {api.Row{}, id(0, 1, 1), 65, api.Row{}, false}, {api.Row{}, id(0, 0, 1), 4, api.Row{}, false}, {api.Row{}, id(0, 1, 0), 4, api.Row{}, false}, {api.Row{}, id(0, 1, 5), 4, api.Row{}, false},
		{rowOf(1, 0, 14), id(0, 1, 1), 4, rowOf(1, 4, 0), true}, {rowOf(1, 0, 10), id(0, 1, 1), 4, rowOf(1, 2, 2), true}, {rowOf(1, 0, 10), id(0, 1, 3), 4, rowOf(1, 0, 14), true}, {rowOf(1, 0, 12), id(0, 1, 1), 4, rowOf(1, 1, 6), true},
		{rowOf(1, 0, math.MaxUint64-1), id(0, 1, 1), 64, rowOf(1, 64, 0), true}, {rowOf(1, 0, 1<<63-2), id(0, 1, 1), 64, rowOf(1, 63, 0), true}, {rowOf(1, 0, 1<<63), id(0, 1, 1), 64, rowOf(1, 1, 1<<62), true}, {rowOf(1, 9, 1<<63-2), id(0, 1, 73), 64, rowOf(1, 9, math.MaxUint64-1), true},
		{rowOf(1, 2, 8), id(0, 1, 6), 4, rowOf(1, 2, 8), false}, {rowOf(1, 2, 8), id(0, 1, 2), 4, rowOf(1, 2, 8), false}, {rowOf(1, 2, 8), id(0, 1, 3), 0, rowOf(1, 2, 8), false}, {rowOf(1, 2, 8), id(0, 1, 3), 65, rowOf(1, 2, 8), false}, {rowOf(1, 2, 8), id(0, 2, 3), -1, rowOf(1, 2, 8), false},
		{rowOf(3, 2, 8), id(0, 2, 3), 4, rowOf(3, 2, 8), false}, {rowOf(3, 2, 8), id(0, 4, 5), 4, rowOf(3, 2, 8), false}, {rowOf(3, 2, 8), id(0, 4, 4), 4, rowOf(4, 0, 8), true}, {rowOf(3, 2, 8), id(0, 4, 1), 4, rowOf(4, 1, 0), true}, {rowOf(3, most, 0), id(0, 9, 2), 4, rowOf(9, 0, 2), true},
		{rowOf(1, most-1, 0), id(0, 1, most), 64, rowOf(1, most, 0), true}, {rowOf(1, most-2, 2), id(0, 1, most-1), 64, rowOf(1, most, 0), true}, {rowOf(1, most-2, 0), id(0, 1, most), 64, rowOf(1, most-2, 2), true}, {rowOf(1, most, 0), id(0, 1, most), 64, rowOf(1, most, 0), false}, {rowOf(1, most-64, math.MaxUint64-1), id(0, 1, most-63), 64, rowOf(1, most, 0), true},
		{rowOf(api.MaxInc-1, 5, 2), id(255, api.MaxInc, 1), 64, rowOf(api.MaxInc, 1, 0), true},
	} {
		if got, ok := Take(c.r, c.x, c.window); got != c.want || ok != c.ok {
			t.Error(i, c, got, ok)
		}
	}
}

func TestTheNodeDoesNotMatter(t *testing.T) {
	r := rowOf(2, 5, 10)
	for node := range 256 {
		for inc := range uint16(4) {
			for seq := range uint32(12) {
				x, y := id(uint8(node), inc, seq), id(0, inc, seq)
				a, okA := Take(r, x, 4)
				b, okB := Take(r, y, 4)
				if Has(r, x) != Has(r, y) || May(r, x, 4) != May(r, y, 4) || a != b || okA != okB {
					t.Fatal(x)
				}
			}
		}
	}
}

// P8.4

// TestRowsStayRight draws ids, and holds each row against a set of what was recorded.
func TestRowsStayRight(t *testing.T) {
	draw := rand.New(rand.NewSource(8))
	for _, window := range []int{1, 2, 3, 7, 32, 63, 64} {
		for range 20 {
			r, recorded := api.Row{}, map[api.ID]bool{}
			for range 400 {
				x := id(0, r.Inc, r.Prefix+uint32(draw.Intn(window+3)))
				if draw.Intn(100) == 0 {
					x = id(0, r.Inc+uint16(draw.Intn(3)), uint32(draw.Intn(window+2)))
				}
				before := r
				next, ok := Take(r, x, window)
				if ok {
					recorded[x] = true
				}
				r = next
				if !Right(r, window) || !Right(r, 64) || ok != May(before, x, window) || !ok && r != before {
					t.Fatal(window, before, x, r, ok)
				}
				if ok && (!Has(r, x) || May(r, x, window)) {
					t.Fatal("once more", window, before, x, r)
				}
				for seq := range r.Prefix + 70 {
					y := id(0, r.Inc, seq)
					if Has(r, y) != recorded[y] || r.Inc > 0 && May(r, id(0, r.Inc-1, seq), window) {
						t.Fatal(window, r, y)
					}
				}
				if first := id(0, r.Inc, Mark(0, r).Seq+1); recorded[first] {
					t.Fatal("a greater number up to which all are recorded", r)
				}
			}
		}
	}
}

// TestOrderDoesNotMatter records each set of numbers of a window in many orders.
func TestOrderDoesNotMatter(t *testing.T) {
	draw := rand.New(rand.NewSource(9))
	for _, prefix := range []uint32{0, 5, most - 8, most - 7} {
		for set := range 1 << 7 {
			seqs, start := []uint32{}, rowOf(2, prefix, 0)
			if prefix == 0 {
				start = api.Row{}
			}
			for i := range uint32(7) {
				if set>>i&1 == 1 {
					seqs = append(seqs, prefix+1+i)
				}
			}
			want := rowOf(2, prefix, uint64(set))
			for want.Bits&1 == 1 {
				want = rowOf(2, want.Prefix+1, want.Bits>>1)
			}
			if len(seqs) == 0 {
				want = start
			}
			for range 12 {
				draw.Shuffle(len(seqs), func(i, j int) { seqs[i], seqs[j] = seqs[j], seqs[i] })
				r := start
				for _, seq := range seqs {
					next, ok := Take(r, id(0, 2, seq), 7)
					if !ok {
						t.Fatal(r, seqs, seq)
					}
					r = next
				}
				if r != want {
					t.Fatal(r, want, seqs)
				}
			}
		}
	}
}

// R1

func TestRowsThatAreNotRight(t *testing.T) {
	for _, r := range rows() {
		for _, window := range windows {
			for _, seq := range around(r) {
				for _, inc := range []uint16{0, r.Inc - 1, r.Inc, r.Inc + 1} {
					x := id(3, inc, seq)
					Has(r, x)
					if _, ok := Take(r, x, window); ok != May(r, x, window) {
						t.Fatal(r, x, window)
					}
				}
			}
		}
	}
}
