package bytes

import (
	"math"
	"math/big"
	"slices"
	"strings"
	"testing"
)

const most = math.MaxUint64

func large(n uint64) *big.Int { return new(big.Int).SetUint64(n) }

// digits are a number's groups to the base 2^bits, the lowest first, as few as it takes: of 0 one.
func digits(n *big.Int, bits uint) []byte {
	base := new(big.Int).Lsh(big.NewInt(1), bits)
	var l []byte
	for rest, digit := new(big.Int).Set(n), new(big.Int); len(l) == 0 || rest.Sign() > 0; {
		rest.QuoRem(rest, base, digit)
		l = append(l, byte(digit.Uint64()))
	}
	return l
}

// wantNumber is the document's a number's bytes, of any number from 0 on.
func wantNumber(n *big.Int) []byte {
	l := digits(n, 7)
	for i := range len(l) - 1 {
		l[i] += 128
	}
	return l
}

func wantPut(n uint64) []byte { return wantNumber(large(n)) }

func wantInt(n int64) []byte {
	twice := new(big.Int).Mul(big.NewInt(n), big.NewInt(2))
	if n < 0 {
		twice.Sub(twice.Neg(twice), big.NewInt(1))
	}
	return wantNumber(twice)
}

func wantText(s string) []byte {
	return append(wantPut(uint64(len(s))), s...)
}

func wantFixed(n uint64, width int) []byte {
	if width < 1 || width > 8 {
		return nil
	}
	l := make([]byte, 8)
	copy(l, digits(large(n), 8))
	return l[:width]
}

// nums are the numbers next to each power of two, thus to each border between two lengths, with some others, and the least and the greatest.
func nums() []uint64 {
	l := []uint64{300, 0x1234, 1234567, 0x0123456789abcdef, 0xfedcba9876543210, most - 1, most}
	for k := range 64 {
		l = append(l, 1<<k-1, 1<<k, 1<<k+1)
	}
	slices.Sort(l)
	return slices.Compact(l)
}

// ints are the numbers, taken as whole ones, and those that they are less than 0.
func ints() []int64 {
	l := []int64{math.MinInt64, math.MinInt64 + 1, math.MaxInt64 - 1, math.MaxInt64}
	for _, n := range nums() {
		l = append(l, int64(n), -int64(n))
	}
	slices.Sort(l)
	return slices.Compact(l)
}

// texts are empty ones and long ones, next to the borders at which a length takes one byte more, and such as are no text of letters.
func texts() []string {
	l := []string{"", "a", "ab", "\x00", "\x80", "\xff\xfe\x00\x80\x01", "größer", "日本"}
	for _, n := range []int{126, 127, 128, 129, 300, 16383, 16384, 16385, 70000} {
		l = append(l, strings.Repeat("\x80a\x00", n/3)+strings.Repeat("x", n%3))
	}
	return l
}

var widths = []int{math.MinInt, -256, -8, -1, 0, 1, 2, 3, 4, 5, 6, 7, 8, 9, 10, 16, 255, 256, 257, 264, math.MaxInt}

// put is a call that puts something, handed the bytes that go ahead, and the bytes that are to stand behind them.
type put struct {
	does func(b []byte) []byte
	want []byte
}

// puts are calls of all four kinds.
func puts() []put {
	var l []put
	for _, n := range nums() {
		l = append(l, put{func(b []byte) []byte { return Put(b, n) }, wantPut(n)})
		for _, width := range widths {
			l = append(l, put{func(b []byte) []byte { return PutFixed(b, n, width) }, wantFixed(n, width)})
		}
	}
	for _, n := range ints() {
		l = append(l, put{func(b []byte) []byte { return PutInt(b, n) }, wantInt(n)})
	}
	for _, s := range texts() {
		l = append(l, put{func(b []byte) []byte { return PutText(b, s) }, wantText(s)})
	}
	return l
}

func same(t *testing.T, what string, got, want []byte) {
	t.Helper()
	if !slices.Equal(got, want) {
		t.Errorf("%s = % x, want % x", what, got, want)
	}
}

// P4.1
func TestPut(t *testing.T) {
	for _, n := range nums() {
		if got, want := Put(nil, n), wantPut(n); !slices.Equal(got, want) {
			t.Errorf("Put(none, %d) = % x, want % x", n, got, want)
		}
	}
}

// P4.1: how many bytes a number has, at both sides of each border.
func TestPutLengths(t *testing.T) {
	for k := 1; k <= 9; k++ {
		border := uint64(1) << (7 * k)
		if got := len(Put(nil, border-1)); got != k {
			t.Errorf("%d has %d bytes, want %d", border-1, got, k)
		}
		if got := len(Put(nil, border)); got != k+1 {
			t.Errorf("%d has %d bytes, want %d", border, got, k+1)
		}
	}
	if got := len(Put(nil, most)); got != 10 {
		t.Errorf("2^64 - 1 has %d bytes", got)
	}
}

// P4.1
func TestPutInt(t *testing.T) {
	for _, n := range ints() {
		if got, want := PutInt(nil, n), wantInt(n); !slices.Equal(got, want) {
			t.Errorf("PutInt(none, %d) = % x, want % x", n, got, want)
		}
	}
}

// P4.1: whole numbers by bytes that are written out.
func TestPutIntWrittenOut(t *testing.T) {
	for _, x := range []struct {
		n int64
		b string
	}{
		{0, "\x00"}, {1, "\x02"}, {-1, "\x01"}, {2, "\x04"}, {-2, "\x03"},
		{63, "\x7e"}, {-64, "\x7f"}, {64, "\x80\x01"}, {-65, "\x81\x01"},
		{math.MaxInt64, "\xfe\xff\xff\xff\xff\xff\xff\xff\xff\x01"},
		{math.MinInt64, "\xff\xff\xff\xff\xff\xff\xff\xff\xff\x01"},
	} {
		if got := PutInt(nil, x.n); string(got) != x.b {
			t.Errorf("PutInt(none, %d) = % x, want % x", x.n, got, x.b)
		}
	}
}

// P4.1
func TestPutText(t *testing.T) {
	for _, s := range texts() {
		if got := PutText(nil, s); !slices.Equal(got, wantText(s)) {
			t.Errorf("PutText(none, %d bytes) has %d bytes, or others", len(s), len(got))
		}
	}
}

// P4.1: all widths, those that are none too.
func TestPutFixed(t *testing.T) {
	for _, n := range nums() {
		for _, width := range widths {
			if got, want := PutFixed(nil, n, width), wantFixed(n, width); !slices.Equal(got, want) {
				t.Errorf("PutFixed(none, %x, %d) = % x, want % x", n, width, got, want)
			}
		}
	}
}

// aheads are bytes that go ahead: none, few, such as look like the beginning of a number, and many.
func aheads() [][]byte {
	return [][]byte{nil, {}, {0}, {0x80}, {0xff, 0xff}, {1, 2, 3, 4, 5, 6, 7, 8, 9, 10, 11, 12, 13}, slices.Repeat([]byte{0x9c, 0}, 400)}
}

// roomy tells the bytes with some room behind them, and the whole, room and all: there are 5a in the room.
func roomy(b []byte, room int) (ahead, all []byte) {
	all = append(slices.Clone(b), slices.Repeat([]byte{0x5a}, room)...)
	return all[:len(b)], all
}

// P4.1, R4: what goes ahead stands ahead, with and without room behind it, and stays as it was, its room too.
func TestPutBehind(t *testing.T) {
	for _, p := range puts() {
		for _, b := range aheads() {
			want := slices.Concat(b, p.want)
			for _, room := range []int{0, 1, 9, 64} {
				ahead, all := roomy(b, room)
				before := slices.Clone(all)
				if got := p.does(ahead); !slices.Equal(got, want) {
					t.Fatalf("behind % x: % x, want % x", b, got, want)
				}
				if !slices.Equal(all, before) {
					t.Fatalf("% x and its room: % x behind the call", before, all)
				}
			}
		}
	}
}

// overwrite changes all bytes of b, also those of the room behind it.
func overwrite(b []byte) {
	b = b[:cap(b)]
	for i := range b {
		b[i] ^= 0xa5
	}
}

// R4: what is answered is new memory, also where nothing is put: neither it nor its room shares any with what went ahead, nor with another answer.
func TestPutNewMemory(t *testing.T) {
	for _, p := range puts() {
		for _, b := range aheads() {
			ahead, all := roomy(b, 20)
			before := slices.Clone(all)
			first, second := p.does(ahead), p.does(ahead)
			overwrite(second)
			same(t, "what went ahead, when the answer was changed", all, before)
			overwrite(all)
			if want := slices.Concat(b, p.want); !slices.Equal(first, want) {
				t.Fatalf("when others were changed: % x, want % x", first, want)
			}
		}
	}
}

// P4.1, P4.4: two puts behind the same bytes do not get into each other's way.
func TestPutTwiceBehindTheSame(t *testing.T) {
	base := Put(Put(nil, 7), 300)
	one, other := Put(base, 1), PutText(base, "two")
	same(t, "the first", one, []byte{7, 0xac, 2, 1})
	same(t, "the second", other, []byte{7, 0xac, 2, 3, 't', 'w', 'o'})
	same(t, "what both stand behind", base, []byte{7, 0xac, 2})
}

// The chapter's examples.
func TestExamplesOfPut(t *testing.T) {
	greatest := []byte{0xff, 0xff, 0xff, 0xff, 0xff, 0xff, 0xff, 0xff, 0xff, 1}
	same(t, "Put(none, 0)", Put(nil, 0), []byte{0})
	same(t, "Put(none, 127)", Put(nil, 127), []byte{0x7f})
	same(t, "Put(none, 128)", Put(nil, 128), []byte{0x80, 1})
	same(t, "Put(none, 300)", Put(nil, 300), []byte{0xac, 2})
	same(t, "Put(none, 2^64 - 1)", Put(nil, most), greatest)
	same(t, "PutInt(none, 1)", PutInt(nil, 1), []byte{2})
	same(t, "PutInt(none, -1)", PutInt(nil, -1), []byte{1})
	same(t, "PutInt(none, -2^63)", PutInt(nil, math.MinInt64), greatest)
	same(t, "PutText(78, ab)", PutText([]byte{0x78}, "ab"), []byte{0x78, 2, 0x61, 0x62})
	same(t, "PutFixed(none, 1234, 3)", PutFixed(nil, 0x1234, 3), []byte{0x34, 0x12, 0})
	same(t, "PutFixed(none, 5, 9)", PutFixed(nil, 5, 9), nil)
}
