package crc

import (
	"bytes"
	"hash/crc32"
	"math"
	"testing"

	"grapevine/api"
	"grapevine/wire"
)

var sums = []uint32{0, 1, 2, 15, 16, 255, 256, 1 << 16, 0x82F63B78, 0xE3069283, 1<<31 - 1, 1 << 31, 1<<31 + 1, math.MaxUint32 - 1, math.MaxUint32}

// bitwise is the check sum as the document tells it, bit by bit, from a check sum on.
func bitwise(sum uint32, b []byte) uint32 {
	register := ^sum
	for _, x := range b {
		for i := range 8 {
			register ^= uint32(x>>i) & 1
			out := register & 1
			register >>= 1
			if out == 1 {
				register ^= 2197175160
			}
		}
	}
	return ^register
}

// mixed returns n bytes that look like any, the same ones for the same seed.
func mixed(n int, seed uint32) []byte {
	b := make([]byte, n)
	for i := range b {
		seed = seed*1664525 + 1013904223
		b[i] = byte(seed >> 24)
	}
	return b
}

// inputs are bytes of many lengths, of one value, and mixed.
func inputs() [][]byte {
	all := [][]byte{nil, {}, []byte("123456789"), []byte("grapevine")}
	for x := range 256 {
		all = append(all, []byte{byte(x)}, []byte{0, byte(x)}, []byte{byte(x), 255})
	}
	for n := range 70 {
		all = append(all, make([]byte, n), bytes.Repeat([]byte{255}, n), mixed(n, uint32(n)))
	}
	return append(all, mixed(255, 1), mixed(256, 2), mixed(65536, 3))
}

// full returns b as a slice with spare capacity, and all its memory.
func full(b []byte) (part, whole []byte) {
	whole = append(append([]byte{}, b...), 201, 202, 203, 204, 205, 206, 207, 208)
	return whole[:len(b)], whole
}

// fill writes into all the memory of b, spare capacity too.
func fill(b []byte, x byte) {
	for i := range b[:cap(b)] {
		b[:cap(b)][i] = x
	}
}

func refused(t *testing.T, what string, b []byte) {
	t.Helper()
	if got, err := Open(b); err != api.ErrSum || len(got) != 0 {
		t.Errorf("%s: Open(%v) = %v, %d", what, b, got, err)
	}
}

// P2.1

func TestSumOfKnownBytes(t *testing.T) {
	for _, c := range []struct {
		b    []byte
		want uint32
	}{
		{nil, 0}, {[]byte{}, 0},
		{[]byte("123456789"), 3808858755},
		// Those of RFC 3720, B.4.
		{make([]byte, 32), 0x8A9136AA},
		{bytes.Repeat([]byte{255}, 32), 0x62A8AB43},
	} {
		if got := Sum(c.b); got != c.want {
			t.Error(c.b, got, c.want)
		}
	}
}

func TestSum(t *testing.T) {
	table := crc32.MakeTable(crc32.Castagnoli)
	for _, b := range inputs() {
		if got := Sum(b); got != bitwise(0, b) || got != crc32.Checksum(b, table) {
			t.Error(b, got, bitwise(0, b))
		}
	}
}

func TestSumLeavesOutSpareCapacity(t *testing.T) {
	part, _ := full([]byte{1, 2})
	if Sum(part) != Sum([]byte{1, 2}) || More(7, part) != More(7, []byte{1, 2}) {
		t.Error(Sum(part))
	}
}

func TestMore(t *testing.T) {
	for _, sum := range sums {
		for _, b := range inputs() {
			if got := More(sum, b); got != bitwise(sum, b) {
				t.Error(sum, b, got, bitwise(sum, b))
			}
		}
		if More(sum, nil) != sum || More(sum, []byte{}) != sum {
			t.Error("nothing more", sum, More(sum, nil))
		}
	}
}

func TestMoreOfParts(t *testing.T) {
	for _, b := range [][]byte{nil, []byte("123456789"), make([]byte, 40), mixed(100, 9)} {
		for i := range len(b) + 1 {
			if got := More(Sum(b[:i]), b[i:]); got != Sum(b) {
				t.Error(b, i, got, Sum(b))
			}
		}
		sum := Sum(nil)
		for i := range b {
			sum = More(sum, b[i:i+1])
		}
		if sum != Sum(b) {
			t.Error("byte by byte", b, sum, Sum(b))
		}
	}
}

// P2.2

func TestSealOfKnownBytes(t *testing.T) {
	for _, c := range []struct{ b, want []byte }{
		{nil, []byte{0, 0, 0, 0}},
		{[]byte{}, []byte{0, 0, 0, 0}},
		{[]byte("123456789"), append([]byte("123456789"), 0x83, 0x92, 0x06, 0xE3)},
	} {
		if got := Seal(c.b); !bytes.Equal(got, c.want) {
			t.Error(c.b, got, c.want)
		}
	}
}

func TestSeal(t *testing.T) {
	for _, b := range inputs() {
		sum := bitwise(0, b)
		want := append(append([]byte{}, b...), byte(sum), byte(sum>>8), byte(sum>>16), byte(sum>>24))
		if got := Seal(b); !bytes.Equal(got, want) {
			t.Error(b, got, want)
		}
	}
}

func TestOpenOfTooFew(t *testing.T) {
	for n := range 4 {
		refused(t, "zeros", make([]byte, n))
		refused(t, "ones", bytes.Repeat([]byte{255}, n))
		refused(t, "the beginning of a sealed nothing", Seal(nil)[:n])
		part, _ := full(Seal([]byte("ab"))[:n])
		refused(t, "spare capacity behind", part)
	}
	refused(t, "three", []byte{1, 2, 3})
	got, err := Open([]byte{0, 0, 0, 0})
	if len(got) != 0 || err != api.OK {
		t.Error("four", got, err)
	}
}

func TestOpenOfAnotherSum(t *testing.T) {
	refused(t, "not of nothing", []byte{1, 0, 0, 0})
	for _, b := range [][]byte{nil, {0}, []byte("123456789"), mixed(40, 5)} {
		sum := Sum(b)
		for _, other := range []uint32{sum + 1, sum - 1, ^sum, sum ^ 1<<31, sum ^ 0xFF00} {
			refused(t, "another sum", append(append([]byte{}, b...), byte(other), byte(other>>8), byte(other>>16), byte(other>>24)))
		}
		refused(t, "a byte too many before", append([]byte{0}, Seal(b)...))
		refused(t, "a byte too many behind", append(Seal(b), 7))
	}
	for _, b := range [][]byte{{0}, []byte("123456789"), mixed(40, 5)} {
		sealed := Seal(b)
		refused(t, "the highest byte first", wire.Put(b, uint64(Sum(b)), 4))
		refused(t, "without the first byte", sealed[1:])
		refused(t, "without the last byte", sealed[:len(sealed)-1])
		refused(t, "the sum alone", sealed[len(b):])
	}
}

// P2.3

func TestOpenOfSealed(t *testing.T) {
	for _, b := range inputs() {
		if got, err := Open(Seal(b)); err != api.OK || !bytes.Equal(got, b) {
			t.Error(b, got, err)
		}
		if got, err := Open(Seal(Seal(b))); err != api.OK || !bytes.Equal(got, Seal(b)) {
			t.Error("sealed twice", b, got, err)
		}
	}
}

// turned returns b with those bits inverted that turns has, from a bit on; a byte's lowest bit is its first, as in the check sum.
func turned(b []byte, from int, turns uint32) []byte {
	out := append([]byte{}, b...)
	for i := range 32 {
		at := from + i
		if turns>>i&1 == 1 && at < 8*len(out) {
			out[at/8] ^= 1 << (at % 8)
		}
	}
	return out
}

// bursts are patterns of 32 neighbouring bits; each has its first bit, so that all of them, wherever they begin, invert something.
func bursts() []uint32 {
	all := []uint32{math.MaxUint32, 0x55555555, 0xAAAAAAAB, 0x82F63B79, 0xEDB88321, 0xF0F0F0F1}
	for i := range 32 {
		all = append(all, 1|1<<i, uint32(1<<i-1)|1, 1|math.MaxUint32<<i)
	}
	seed := uint32(4)
	for range 200 {
		seed = seed*1664525 + 1013904223
		all = append(all, seed|1)
	}
	return all
}

func TestOpenOfBursts(t *testing.T) {
	patterns := bursts()
	for _, b := range [][]byte{nil, {0}, []byte("123456789"), make([]byte, 20), bytes.Repeat([]byte{255}, 20), mixed(40, 6)} {
		sealed := Seal(b)
		for from := range 8 * len(sealed) {
			for _, turns := range patterns {
				refused(t, "a burst", turned(sealed, from, turns))
			}
		}
	}
}

// R3: arguments stay as they are, with their spare capacity, and results are memory of their own.

func TestArgumentsStay(t *testing.T) {
	for _, b := range [][]byte{nil, {5}, {1, 0, 0, 0}, Seal(nil), Seal([]byte("ab")), mixed(30, 7)} {
		part, whole := full(b)
		before := append([]byte{}, whole...)
		Sum(part)
		More(9, part)
		fill(Seal(part), 99)
		opened, _ := Open(part)
		fill(opened, 98)
		if !bytes.Equal(whole, before) {
			t.Error(b, whole)
		}
	}
}

func TestResultsOutliveArguments(t *testing.T) {
	b := []byte("abc")
	sealed := Seal(b)
	fill(b, 99)
	if !bytes.Equal(sealed, Seal([]byte("abc"))) {
		t.Error(sealed)
	}
	opened, err := Open(sealed)
	fill(sealed, 99)
	if err != api.OK || !bytes.Equal(opened, []byte("abc")) {
		t.Error(opened, err)
	}
}
