package wire

import (
	"bytes"
	"math"
	"testing"
)

// numbers stand at the edges of one to eight bytes, and between them.
var numbers = []uint64{
	0, 1, 2, 127, 128, 255, 256, 257, 258, 65535, 65536, 1<<24 - 1, 1 << 24,
	1<<31 - 1, 1 << 31, 1<<32 - 1, 1 << 32, 1<<40 + 7, 1<<48 - 1, 1 << 56, 0x0102030405060708,
	1<<63 - 1, 1 << 63, math.MaxUint64 - 1, math.MaxUint64,
}

var signed = []int32{math.MinInt32, math.MinInt32 + 1, -65536, -256, -2, -1, 0, 1, 2, 255, 256, 65536, math.MaxInt32 - 1, math.MaxInt32}

func same(t *testing.T, what string, got []byte, want ...byte) {
	t.Helper()
	if !bytes.Equal(got, want) {
		t.Errorf("%s: got %v, want %v", what, got, want)
	}
}

// full returns b as a slice with spare capacity, and all its memory.
func full(b ...byte) (part, whole []byte) {
	whole = append(append([]byte{}, b...), 201, 202, 203, 204, 205, 206, 207, 208, 209, 210, 211, 212)
	return whole[:len(b)], whole
}

// fill writes into all the memory of b, spare capacity too.
func fill(b []byte, x byte) {
	for i := range b[:cap(b)] {
		b[:cap(b)][i] = x
	}
}

// P1.1

func TestPut(t *testing.T) {
	same(t, "2 bytes", Put(nil, 258, 2), 1, 2)
	same(t, "the lowest byte alone", Put(nil, 258, 1), 2)
	same(t, "behind others", Put([]byte{9, 8}, 7, 3), 9, 8, 0, 0, 7)
	for n := 1; n <= 8; n++ {
		same(t, "n bytes", Put([]byte{200}, 0x0102030405060708, n), append([]byte{200}, []byte{1, 2, 3, 4, 5, 6, 7, 8}[8-n:]...)...)
	}
	same(t, "all ones", Put(nil, math.MaxUint64, 8), 255, 255, 255, 255, 255, 255, 255, 255)
	same(t, "an empty slice", Put([]byte{}, 5, 1), 5)
}

func TestPutOfWrongCount(t *testing.T) {
	for _, n := range []int{math.MinInt, -8, -1, 0, 9, 10, 16, 64, 256 + 1, 1<<32 + 1, math.MaxInt} {
		same(t, "b alone", Put([]byte{7}, 1, n), 7)
		same(t, "nothing", Put(nil, 1, n))
	}
}

func TestTake(t *testing.T) {
	x, rest, ok := Take([]byte{1, 2, 3}, 2)
	if x != 258 || !ok {
		t.Error(x, ok)
	}
	same(t, "rest", rest, 3)
	b := []byte{1, 2, 3, 4, 5, 6, 7, 8, 9}
	for n := 1; n <= 8; n++ {
		x, rest, ok := Take(b, n)
		if x != 0x0102030405060708>>(8*(8-n)) || !ok {
			t.Error(n, x, ok)
		}
		same(t, "rest", rest, b[n:]...)
	}
	for n := 1; n <= 8; n++ {
		if x, rest, ok := Take(b[:n], n); x == 0 || len(rest) != 0 || !ok {
			t.Error("all of it", n, x, rest, ok)
		}
	}
	if x, _, ok := Take([]byte{255, 255, 255, 255, 255, 255, 255, 255}, 8); x != math.MaxUint64 || !ok {
		t.Error(x, ok)
	}
}

func TestTakeOfWrongCount(t *testing.T) {
	long := bytes.Repeat([]byte{1}, 300)
	for _, n := range []int{math.MinInt, -1, 0, 9, 10, 16, 256 + 1, 1<<32 + 1, math.MaxInt} {
		if x, rest, ok := Take(long, n); x != 0 || len(rest) != 0 || ok {
			t.Error(n, x, rest, ok)
		}
	}
	for n := 1; n <= 8; n++ {
		for m := range n {
			if x, rest, ok := Take(long[:m], n); x != 0 || len(rest) != 0 || ok {
				t.Error("too short", n, m, x, rest, ok)
			}
		}
	}
	if x, rest, ok := Take(nil, 1); x != 0 || len(rest) != 0 || ok {
		t.Error(x, rest, ok)
	}
}

func TestTakeLeavesOutSpareCapacity(t *testing.T) {
	part, _ := full(1)
	if x, rest, ok := Take(part, 2); x != 0 || len(rest) != 0 || ok {
		t.Error(x, rest, ok)
	}
	part, _ = full(0, 2, 97)
	if text, rest, ok := TakeText(part, 9); len(text) != 0 || len(rest) != 0 || ok {
		t.Error(text, rest, ok)
	}
}

// P1.2

func TestPutText(t *testing.T) {
	same(t, "a text", PutText(nil, []byte("ab")), 0, 2, 97, 98)
	same(t, "behind others", PutText([]byte{5, 6}, []byte{0, 255}), 5, 6, 0, 2, 0, 255)
	same(t, "an empty text", PutText([]byte{5}, nil), 5, 0, 0)
	same(t, "an empty text, not nil", PutText(nil, []byte{}), 0, 0)
	for _, n := range []int{255, 256, 257, 65534, 65535} {
		text := bytes.Repeat([]byte{3}, n)
		got := PutText([]byte{9}, text)
		if len(got) != n+3 {
			t.Fatal(n, len(got))
		}
		same(t, "head", got[:3], 9, byte(n>>8), byte(n))
		same(t, "body", got[3:], text...)
	}
	for _, n := range []int{65536, 65537, 1 << 17, 1<<24 + 2} {
		same(t, "too long", PutText([]byte{9}, make([]byte, n)), 9)
		same(t, "too long, behind nothing", PutText(nil, make([]byte, n)))
	}
}

func TestTakeText(t *testing.T) {
	b := []byte{0, 2, 97, 98, 9}
	for _, most := range []int{2, 3, 65535, 65536, math.MaxInt} {
		text, rest, ok := TakeText(b, most)
		if !ok {
			t.Error(most)
		}
		same(t, "text", text, 97, 98)
		same(t, "rest", rest, 9)
	}
	if text, rest, ok := TakeText([]byte{0, 0}, 0); len(text) != 0 || len(rest) != 0 || !ok {
		t.Error(text, rest, ok)
	}
	text, rest, ok := TakeText([]byte{0, 0, 5}, 0)
	if len(text) != 0 || !ok {
		t.Error(text, ok)
	}
	same(t, "rest", rest, 5)
	long := append([]byte{255, 255}, make([]byte, 65536)...)
	if text, rest, ok := TakeText(long, 65535); len(text) != 65535 || len(rest) != 1 || !ok {
		t.Error(len(text), len(rest), ok)
	}
	if text, rest, ok := TakeText(long, 65534); len(text) != 0 || len(rest) != 0 || ok {
		t.Error(len(text), len(rest), ok)
	}
}

func TestTakeTextOfNone(t *testing.T) {
	for _, c := range []struct {
		b    []byte
		most int
	}{
		{nil, 9}, {[]byte{}, 9}, {[]byte{0}, 9}, {[]byte{1}, 9}, {[]byte{0, 1}, 9}, {[]byte{0, 3, 1, 2}, 9}, {[]byte{1, 0, 1, 2}, 999},
		{[]byte{0, 2, 97, 98, 9}, 1}, {[]byte{0, 2, 97, 98, 9}, 0}, {[]byte{0, 1, 1}, 0},
		{[]byte{0, 0}, -1}, {[]byte{0, 0, 5}, math.MinInt}, {[]byte{0, 1, 5}, -1},
	} {
		if text, rest, ok := TakeText(c.b, c.most); len(text) != 0 || len(rest) != 0 || ok {
			t.Error(c, text, rest, ok)
		}
	}
}

// P1.3

func TestSigns(t *testing.T) {
	for _, x := range signed {
		if got := Unsigned(x); got != uint64(int64(x)+2147483648) {
			t.Error(x, got)
		}
		for _, high := range []uint64{0, 1 << 32, 1 << 63, (1<<32 - 1) << 32} {
			if got := Signed(Unsigned(x) | high); got != x {
				t.Error(x, high, got)
			}
		}
	}
	if Unsigned(-1) != 2147483647 || Unsigned(math.MinInt32) != 0 || Unsigned(math.MaxInt32) != 4294967295 || Unsigned(0) != 2147483648 {
		t.Error("unsigned")
	}
	if Signed(0) != -2147483648 || Signed(2147483648) != 0 || Signed(4294967295) != 2147483647 || Signed(4294967296) != -2147483648 || Signed(math.MaxUint64) != 2147483647 {
		t.Error("signed")
	}
}

// P1.4

func TestPutThenTake(t *testing.T) {
	for _, x := range numbers {
		for n := 1; n <= 8; n++ {
			want := x
			if n < 8 {
				want = x % (1 << (8 * n))
			}
			got, rest, ok := Take(append(Put(nil, x, n), 4, 5), n)
			if got != want || !ok {
				t.Error(x, n, got, ok)
			}
			same(t, "the rest stays", rest, 4, 5)
		}
	}
	for _, n := range []int{0, 1, 2, 255, 256, 65535} {
		text := bytes.Repeat([]byte{0, 1, 255}, n)[:n]
		got, rest, ok := TakeText(append(PutText(nil, text), 4, 5), n)
		if !ok {
			t.Error(n)
		}
		same(t, "text", got, text...)
		same(t, "the rest stays", rest, 4, 5)
	}
}

func TestOrder(t *testing.T) {
	fits := func(x uint64, n int) bool { return n == 8 || x < 1<<(8*n) }
	for _, x := range numbers {
		for _, y := range numbers {
			for n := 1; n <= 8; n++ {
				less := bytes.Compare(Put(nil, x, n), Put(nil, y, n)) < 0
				if fits(x, n) && fits(y, n) && less != (x < y) {
					t.Error(x, y, n)
				}
			}
		}
	}
	for _, x := range signed {
		for _, y := range signed {
			if less := bytes.Compare(Put(nil, Unsigned(x), 4), Put(nil, Unsigned(y), 4)) < 0; less != (x < y) {
				t.Error(x, y)
			}
		}
	}
}

// R3: arguments stay as they are, with their spare capacity, and results are memory of their own.

func TestArgumentsStay(t *testing.T) {
	for n := -1; n <= 9; n++ {
		part, whole := full(1, 2, 3)
		before := append([]byte{}, whole...)
		fill(Put(part, 77, n), 99)
		_, rest, _ := Take(part, n)
		fill(rest, 99)
		same(t, "numbers", whole, before...)
	}
	for _, text := range [][]byte{nil, []byte("abc"), make([]byte, 65536)} {
		part, whole := full(0, 1, 3, 4)
		before := append([]byte{}, whole...)
		kept := append([]byte{}, text...)
		fill(PutText(part, text), 99)
		same(t, "b", whole, before...)
		same(t, "text", text, kept...)
	}
	for most := -1; most <= 2; most++ {
		part, whole := full(0, 1, 3, 4)
		before := append([]byte{}, whole...)
		text, rest, _ := TakeText(part, most)
		fill(text, 98)
		fill(rest, 99)
		same(t, "texts", whole, before...)
		if most >= 1 {
			same(t, "text beside rest", text, 98)
		}
	}
}

func TestResultsOutliveArguments(t *testing.T) {
	b := []byte{1, 2, 3, 4}
	put, alone := Put(b, 5, 1), Put(b, 5, 0)
	_, rest, _ := Take(b, 1)
	head := []byte{0, 2, 3, 4, 5}
	text, behind, _ := TakeText(head, 9)
	written := PutText(b, head)
	fill(b, 99)
	fill(head, 99)
	same(t, "Put", put, 1, 2, 3, 4, 5)
	same(t, "Put of none", alone, 1, 2, 3, 4)
	same(t, "Take", rest, 2, 3, 4)
	same(t, "TakeText", text, 3, 4)
	same(t, "TakeText's rest", behind, 5)
	same(t, "PutText", written, 1, 2, 3, 4, 0, 5, 0, 2, 3, 4, 5)
}

func TestTextInSpareCapacity(t *testing.T) {
	part, whole := full(1, 2)
	same(t, "text behind b in one memory", PutText(part, whole[2:5]), 1, 2, 0, 3, 201, 202, 203)
}
