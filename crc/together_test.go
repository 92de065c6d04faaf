package crc

import (
	"bytes"
	"math"
	"slices"
	"sync"
	"testing"
)

// turn turns those of the 32 bits from the bit `from` on that are in the pattern; such as would lie behind the row's end are left out. It tells whether any was turned.
func turn(row []byte, from int, pattern uint32) bool {
	some := false
	for k := range 32 {
		bit := from + k
		if pattern>>k&1 == 1 && bit < 8*len(row) {
			row[bit/8] ^= 1 << (bit % 8)
			some = true
		}
	}
	return some
}

// holdBurst tells that the row's sum is unlike its own with the pattern turned.
func holdBurst(t *testing.T, row []byte, from int, pattern uint32) {
	t.Helper()
	was := Sum(row)
	other := slices.Clone(row)
	if turn(other, from, pattern) && Sum(other) == was {
		t.Fatalf("%s with the bits %08x turned from the bit %d on has the same sum, %08x", short(row), pattern, from, was)
	}
}

// P19.4: each bit alone, and each two bits within 32.
func TestBurstOfOneBitAndOfTwo(t *testing.T) {
	r := draws(20)
	for n := 1; n <= 70; n++ {
		for _, row := range [][]byte{drawn(r, n), make([]byte, n), bytes.Repeat([]byte{255}, n)} {
			for from := range 8 * n {
				holdBurst(t, row, from, 1)
				for k := 1; k < 32; k++ {
					holdBurst(t, row, from, 1|1<<k)
				}
			}
		}
	}
}

// P19.4: every pattern of up to 12 bits, at each bit of a short row, so also at its beginning, its end and over the ends of its bytes.
func TestBurstOfEveryShortPattern(t *testing.T) {
	r := draws(21)
	for n := 1; n <= 6; n++ {
		row := drawn(r, n)
		for from := range 8 * n {
			for pattern := uint32(1); pattern < 1<<12; pattern += 2 {
				holdBurst(t, row, from, pattern)
			}
		}
	}
}

// P19.4: patterns of all 32 bits, drawn and such as stand out, at each bit of rows of many lengths.
func TestBurstOfManyPatterns(t *testing.T) {
	r := draws(22)
	patterns := []uint32{0xffffffff, 0x80000001, 0x7fffffff, 0xfffffffe, 0x82f63b78, 0x05ec76f1, 0x01010101, 0x80808080, 0x00ffff00, 0xff0000ff, 0x55555555, 0xaaaaaaaa}
	for range 60 {
		patterns = append(patterns, r.Uint32()|1, r.Uint32()|1<<31)
	}
	for _, n := range []int{1, 2, 3, 4, 5, 6, 7, 8, 9, 12, 16, 17, 31, 32, 33, 64, 65, 128} {
		row := drawn(r, n)
		for from := range 8 * n {
			for _, p := range patterns {
				holdBurst(t, row, from, p)
			}
		}
	}
}

// P19.4: at the beginning, in the midst and at the end of long rows.
func TestBurstInLongRows(t *testing.T) {
	r := draws(23)
	for _, n := range []int{500, 511, 512, 513, 4096, 65536} {
		row := drawn(r, n)
		for _, from := range []int{0, 1, 7, 8, 4 * n, 4*n + 5, 8*n - 33, 8*n - 32, 8*n - 31, 8*n - 9, 8*n - 8, 8*n - 1} {
			for range 4 {
				holdBurst(t, row, from, r.Uint32()|1)
			}
			holdBurst(t, row, from, math.MaxUint32)
			holdBurst(t, row, from, 1)
		}
	}
}

// P19.4: of every two rows of one byte, and of every two of two bytes, all of whose bits lie within 32, the sums are unlike.
func TestBurstLeavesShortRowsApart(t *testing.T) {
	for n := 1; n <= 2; n++ {
		met := map[uint32]int{}
		for i := range 1 << (8 * n) {
			row := []byte{byte(i), byte(i >> 8)}[:n]
			s := Sum(row)
			if j, there := met[s]; there {
				t.Fatalf("the rows %d and %d of %d bytes have the same sum, %08x", j, i, n, s)
			}
			met[s] = i
		}
	}
}

// P19.4: texts, too.
func TestBurstInTexts(t *testing.T) {
	r := draws(24)
	for n := 1; n <= 40; n++ {
		row := drawn(r, n)
		for from := range 8 * n {
			other := slices.Clone(row)
			if turn(other, from, r.Uint32()|1) && Text(string(other)) == Text(string(row)) {
				t.Fatalf("%s and %s have the same sum", short(row), short(other))
			}
		}
	}
}

// holdThree holds the sum of a xor b xor c against those of a, b and c.
func holdThree(t *testing.T, a, b, c []byte) {
	t.Helper()
	x := make([]byte, len(a))
	for i := range x {
		x[i] = a[i] ^ b[i] ^ c[i]
	}
	if got, want := Sum(x), Sum(a)^Sum(b)^Sum(c); got != want {
		t.Fatalf("%s, %s, %s: %08x, not %08x", short(a), short(b), short(c), got, want)
	}
	if got, want := Text(string(x)), Text(string(a))^Text(string(b))^Text(string(c)); got != want {
		t.Fatalf("%s, %s, %s as texts: %08x, not %08x", short(a), short(b), short(c), got, want)
	}
}

// P19.5: rows of many lengths, also of none, also with two or three of them alike.
func TestThree(t *testing.T) {
	r := draws(25)
	lengths := []int{127, 128, 129, 255, 256, 500, 512, 513, 4096, 65536, 1<<20 + 1}
	for n := range 66 {
		lengths = append(lengths, n)
	}
	for _, n := range lengths {
		a, b, c := drawn(r, n), drawn(r, n), drawn(r, n)
		zero, full := make([]byte, n), bytes.Repeat([]byte{255}, n)
		holdThree(t, a, b, c)
		holdThree(t, a, a, c)
		holdThree(t, a, b, a)
		holdThree(t, a, b, b)
		holdThree(t, a, a, a)
		holdThree(t, a, b, zero)
		holdThree(t, a, zero, zero)
		holdThree(t, zero, zero, zero)
		holdThree(t, a, full, zero)
		holdThree(t, full, full, full)
	}
	holdThree(t, nil, nil, nil)
	holdThree(t, nil, []byte{}, nil)
}

// P19.5: every three single bytes.
func TestThreeOfEveryByte(t *testing.T) {
	var sums [256]uint32
	for i := range sums {
		sums[i] = Sum([]byte{byte(i)})
	}
	for a := range 256 {
		for b := range 256 {
			for c := range 256 {
				if sums[a^b^c] != sums[a]^sums[b]^sums[c] {
					t.Fatalf("the bytes %d, %d, %d", a, b, c)
				}
			}
		}
	}
}

// P19.6: what is handed in reads as before, and so does its room, in front and behind.
func TestHandedInStays(t *testing.T) {
	r := draws(26)
	for n := range 130 {
		all := drawn(r, n+20)
		was := slices.Clone(all)
		row := all[10 : 10+n]
		Sum(row)
		More(r.Uint32(), row)
		More(0, row)
		Text(string(row))
		if !slices.Equal(all, was) {
			t.Fatalf("a row of %d bytes is another one behind the calls", n)
		}
		if len(row) != n || cap(row) != n+10 {
			t.Fatalf("a row of %d bytes has other ends behind the calls", n)
		}
	}
}

// P19.6, R1: no call panics, whatever it is given.
func TestNoCallPanics(t *testing.T) {
	r := draws(27)
	rows := [][]byte{nil, {}, {0}, {255}, make([]byte, 0, 100)}
	for n := range 40 {
		rows = append(rows, drawn(r, n))
	}
	for _, row := range rows {
		func() {
			defer func() {
				if x := recover(); x != nil {
					t.Fatalf("%s: a call panics: %v", short(row), x)
				}
			}()
			Sum(row)
			Text(string(row))
			for _, s := range someSums() {
				More(s, row)
			}
		}()
	}
}

// R4: nothing is kept of a row: changed behind the call, it has the sum of what it is then.
func TestNothingIsKept(t *testing.T) {
	row := []byte("bedrock")
	first := Sum(row)
	row[3] ^= 4
	if Sum(row) == first || Sum(row) != wantSum(row) {
		t.Error("a row that was changed has its old sum")
	}
	row[3] ^= 4
	if Sum(row) != first {
		t.Error("a row that was changed back has not its old sum")
	}
}

// R6: the same answers whatever was asked ahead, also of calls at once.
func TestAnswersHangOnArgumentsAlone(t *testing.T) {
	r := draws(28)
	var rows [][]byte
	for n := range 200 {
		rows = append(rows, drawn(r, n))
	}
	all := func() []uint32 {
		var l []uint32
		for i, row := range rows {
			l = append(l, Sum(row), Text(string(row)), More(uint32(i)*0x9e3779b9, row))
		}
		return l
	}
	first := all()
	var wait sync.WaitGroup
	for range 8 {
		wait.Go(func() {
			if !slices.Equal(all(), first) {
				t.Error("asked again, the answers are other ones")
			}
		})
	}
	wait.Wait()
}
