package crc

import (
	"bytes"
	"hash/crc32"
	"math/rand/v2"
	"slices"
	"strings"
	"testing"
)

// wantState is the chapter's going on: from a state over bytes, bit by bit.
func wantState(s uint32, row []byte) uint32 {
	for _, b := range row {
		s ^= uint32(b)
		for range 8 {
			if s%2 == 1 {
				s = s/2 ^ 0x82f63b78
			} else {
				s = s / 2
			}
		}
	}
	return s
}

// turned is a number with all its bits turned.
func turned(n uint32) uint32 { return n ^ 0xffffffff }

func wantSum(row []byte) uint32 { return turned(wantState(0xffffffff, row)) }

func wantMore(sum uint32, row []byte) uint32 { return turned(wantState(turned(sum), row)) }

// draws are the same ones in each run of the tests.
func draws(seed uint64) *rand.Rand { return rand.New(rand.NewPCG(seed, 19)) }

func drawn(r *rand.Rand, n int) []byte {
	row := make([]byte, n)
	for i := range row {
		row[i] = byte(r.Uint32())
	}
	return row
}

// holdSum holds Sum, and Text of the same bytes, against the account.
func holdSum(t *testing.T, row []byte) {
	t.Helper()
	want := wantSum(row)
	if got := Sum(row); got != want {
		t.Fatalf("Sum of %s is %08x, not %08x", short(row), got, want)
	}
	if got := Text(string(row)); got != want {
		t.Fatalf("Text of %s is %08x, not %08x", short(row), got, want)
	}
}

// short keeps what a failing test tells short.
func short(row []byte) string {
	if len(row) > 40 {
		return "a long row that begins with " + short(row[:40])
	}
	var b strings.Builder
	for _, x := range row {
		b.WriteByte("0123456789abcdef"[x>>4])
		b.WriteByte("0123456789abcdef"[x&15])
	}
	return "[" + b.String() + "]"
}

// The account itself: it is that sum of bytes which the library of Go knows, too.
func TestAccountIsCRC32C(t *testing.T) {
	r := draws(1)
	table := crc32.MakeTable(crc32.Castagnoli)
	for n := range 200 {
		row := drawn(r, n)
		if got, want := wantSum(row), crc32.Checksum(row, table); got != want {
			t.Fatalf("the account's sum of %s is %08x, not %08x", short(row), got, want)
		}
		s := r.Uint32()
		if got, want := wantMore(s, row), crc32.Update(s, table, row); got != want {
			t.Fatalf("the account's sum of %08x and %s is %08x, not %08x", s, short(row), got, want)
		}
	}
}

// Each number of the table is the state behind four of the eight times.
func TestHalvesAreFourTimes(t *testing.T) {
	if len(halves) != 16 {
		t.Fatalf("the table has %d numbers", len(halves))
	}
	for i, got := range halves {
		s := uint32(i)
		for range 4 {
			if s%2 == 1 {
				s = s/2 ^ 0x82f63b78
			} else {
				s = s / 2
			}
		}
		if got != s {
			t.Errorf("the number %d of the table is %08x, not %08x", i, got, s)
		}
	}
}

// P19.1: nothing has the sum 0, whether it is there or nil.
func TestSumOfNothing(t *testing.T) {
	full := []byte{1, 2, 3}
	for _, row := range [][]byte{nil, {}, make([]byte, 0, 9), full[:0], full[3:], full[1:1:1]} {
		holdSum(t, row)
		if got := Sum(row); got != 0 {
			t.Errorf("Sum of nothing is %08x", got)
		}
	}
	if got := Text(""); got != 0 {
		t.Errorf("Text of nothing is %08x", got)
	}
	if got := Text("abc"[3:]); got != 0 {
		t.Errorf("Text of an end of a text is %08x", got)
	}
}

// P19.1: every single byte, and every pair of bytes.
func TestSumOfFewBytes(t *testing.T) {
	for a := range 256 {
		holdSum(t, []byte{byte(a)})
		for b := range 256 {
			holdSum(t, []byte{byte(a), byte(b)})
		}
	}
}

// P19.1: rows of every length from 0 on, past those that the issue names.
func TestSumOfEveryLength(t *testing.T) {
	r := draws(2)
	for n := range 300 {
		for range 8 {
			holdSum(t, drawn(r, n))
		}
	}
}

// P19.1: rows of one byte over and over.
func TestSumOfOneByteOverAndOver(t *testing.T) {
	for b := range 256 {
		for n := range 65 {
			holdSum(t, bytes.Repeat([]byte{byte(b)}, n))
		}
	}
	for _, b := range []byte{0, 1, 127, 128, 255} {
		for _, n := range []int{255, 256, 257, 500, 511, 512, 513, 4096, 65535, 65536, 65537} {
			holdSum(t, bytes.Repeat([]byte{b}, n))
		}
	}
}

// P19.1: rows that are 0 but for one bit, and 255 but for one.
func TestSumOfOneBit(t *testing.T) {
	for n := 1; n <= 64; n++ {
		for bit := range 8 * n {
			row := make([]byte, n)
			row[bit/8] ^= 1 << (bit % 8)
			holdSum(t, row)
			for i := range row {
				row[i] ^= 255
			}
			holdSum(t, row)
		}
	}
}

// P19.1: rows that differ in one bit, each by the account.
func TestSumWithOneBitTurned(t *testing.T) {
	r := draws(3)
	for _, n := range []int{1, 2, 3, 4, 5, 8, 9, 16, 33, 100, 512} {
		row := drawn(r, n)
		for bit := range 8 * n {
			row[bit/8] ^= 1 << (bit % 8)
			holdSum(t, row)
			row[bit/8] ^= 1 << (bit % 8)
		}
	}
}

// P19.1: rows of more than a million bytes.
func TestSumOfVeryLongRows(t *testing.T) {
	r := draws(4)
	for _, n := range []int{1<<20 - 1, 1 << 20, 1<<20 + 1, 3_000_017} {
		holdSum(t, drawn(r, n))
	}
	for _, b := range []byte{0, 1, 127, 128, 255} {
		holdSum(t, bytes.Repeat([]byte{b}, 1<<20+7))
	}
}

// P19.1: a text is its bytes, whatever runes they are, or whether they are any.
func TestTextIsItsBytes(t *testing.T) {
	texts := []string{
		"\x00", "\x00\x00", "a\x00b", "\x00a", "a\x00", "\x7f", "\x80", "\xff", "\xfe\xff", "\xc3", "\xc3(", "\xe2\x82", "\xed\xa0\x80", "\xf0\x9f\xa7", "\xf4\x90\x80\x80",
		"é", "e\u0301", "Fels", "Grüße", "€", "岩盤", "🧱🧱", "\ufffd", "\ufeffa", "a\r\nb", "\u2028", strings.Repeat("岩", 333), strings.Repeat("\xff\x00", 512),
	}
	for _, s := range texts {
		if got, want := Text(s), wantSum([]byte(s)); got != want {
			t.Errorf("Text of %q is %08x, not %08x", s, got, want)
		}
		if got, want := Sum([]byte(s)), Text(s); got != want {
			t.Errorf("Sum of %q is %08x, Text of it %08x", s, got, want)
		}
	}
	if Text("é") == Text("e\u0301") || Text("\ufffd") == Text("\xff") {
		t.Error("texts of other bytes are alike")
	}
}

// P19.1: what lies in a row's room behind, or in front, does not count.
func TestSumLeavesOutItsRoom(t *testing.T) {
	r := draws(5)
	for n := range 65 {
		all := drawn(r, n+24)
		row := slices.Clone(all[8 : 8+n])
		for _, cut := range [][]byte{all[8 : 8+n], all[8 : 8+n : 8+n], all[8 : 8+n : 8+n+5]} {
			if got, want := Sum(cut), wantSum(row); got != want {
				t.Fatalf("Sum of %s with room is %08x, not %08x", short(row), got, want)
			}
		}
		first := Sum(all[8 : 8+n])
		for i := range 8 {
			all[i] ^= 255
			all[8+n+i] ^= 255
		}
		if Sum(all[8:8+n]) != first {
			t.Fatalf("Sum of %s hangs on what lies beside it", short(row))
		}
	}
}

// The chapter's examples.
func TestExamples(t *testing.T) {
	upTo31 := make([]byte, 32)
	for i := range upTo31 {
		upTo31[i] = byte(i)
	}
	for _, x := range []struct {
		name      string
		got, want uint32
	}{
		{"Sum of nothing", Sum(nil), 0},
		{"Text of 123456789", Text("123456789"), 0xe3069283},
		{"Sum of 32 bytes 0", Sum(make([]byte, 32)), 0x8a9136aa},
		{"Sum of 32 bytes 255", Sum(bytes.Repeat([]byte{255}, 32)), 0x62a8ab43},
		{"Sum of the bytes 0 to 31", Sum(upTo31), 0x46dd794e},
		{"More of 12345 and 6789", More(Text("12345"), []byte("6789")), 0xe3069283},
	} {
		if x.got != x.want {
			t.Errorf("%s is %08x, not %08x", x.name, x.got, x.want)
		}
	}
}
