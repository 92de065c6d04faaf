package crc

import "testing"

// someSums are those that the issue names, single bits, and many others, most of them told of no row here.
func someSums() []uint32 {
	l := []uint32{0, 1, 0x80000000, 0x7fffffff, 0xffffffff, 0xfffffffe, 2, 0x82f63b78, 0x7d09c487, 0xe3069283, 0x55555555, 0xaaaaaaaa, 0xdeadbeef}
	for bit := range 32 {
		l = append(l, 1<<bit, turned(1<<bit))
	}
	r := draws(10)
	for range 60 {
		l = append(l, r.Uint32())
	}
	return l
}

func holdMore(t *testing.T, sum uint32, row []byte) {
	t.Helper()
	if got, want := More(sum, row), wantMore(sum, row); got != want {
		t.Fatalf("More of %08x and %s is %08x, not %08x", sum, short(row), got, want)
	}
}

// P19.2: from many sums over nothing, each single byte, and rows of every length.
func TestMoreFromManySums(t *testing.T) {
	r := draws(11)
	for _, s := range someSums() {
		holdMore(t, s, nil)
		holdMore(t, s, []byte{})
		for b := range 256 {
			holdMore(t, s, []byte{byte(b)})
		}
		for n := range 65 {
			holdMore(t, s, drawn(r, n))
			holdMore(t, s, make([]byte, n))
		}
		holdMore(t, s, drawn(r, 1000))
	}
}

// P19.2: what lies in the row's room behind does not count.
func TestMoreLeavesOutItsRoom(t *testing.T) {
	r := draws(12)
	for n := range 65 {
		all := drawn(r, n+9)
		for _, s := range someSums() {
			holdMore(t, s, all[4:4+n])
		}
	}
}

// P19.2: very long rows.
func TestMoreOverVeryLongRows(t *testing.T) {
	r := draws(13)
	row := drawn(r, 1<<20+3)
	for _, s := range []uint32{0, 1, 0x80000000, 0xffffffff, r.Uint32()} {
		holdMore(t, s, row)
	}
}

// P19.3: for each way to cut a row in two, its parts' sum is its own.
func TestPartsTwo(t *testing.T) {
	r := draws(14)
	for _, n := range []int{0, 1, 2, 3, 4, 5, 7, 8, 9, 15, 16, 17, 31, 32, 33, 63, 64, 65, 100, 255, 256, 257, 500, 512, 513} {
		for range 4 {
			row := drawn(r, n)
			whole := Sum(row)
			for at := range n + 1 {
				if got := More(Sum(row[:at]), row[at:]); got != whole {
					t.Fatalf("%s cut at %d: %08x, not %08x", short(row), at, got, whole)
				}
				if got := More(Text(string(row[:at])), row[at:]); got != whole {
					t.Fatalf("%s as a text, cut at %d: %08x, not %08x", short(row), at, got, whole)
				}
			}
		}
	}
}

// P19.3: in three parts, and byte by byte.
func TestPartsMany(t *testing.T) {
	r := draws(15)
	for n := range 40 {
		row := drawn(r, n)
		whole := Sum(row)
		for a := range n + 1 {
			for b := a; b <= n; b++ {
				if got := More(More(Sum(row[:a]), row[a:b]), row[b:]); got != whole {
					t.Fatalf("%s cut at %d and %d: %08x, not %08x", short(row), a, b, got, whole)
				}
			}
		}
		s := Sum(nil)
		for i := range row {
			s = More(s, row[i:i+1])
		}
		if s != whole {
			t.Fatalf("%s byte by byte: %08x, not %08x", short(row), s, whole)
		}
	}
}

// P19.3: from any sum, More over both parts is More over the whole.
func TestPartsFromAnySum(t *testing.T) {
	r := draws(16)
	row := drawn(r, 48)
	for _, s := range someSums() {
		for at := range len(row) + 1 {
			if got, want := More(More(s, row[:at]), row[at:]), More(s, row); got != want {
				t.Fatalf("from %08x, cut at %d: %08x, not %08x", s, at, got, want)
			}
		}
	}
}

// P19.3: nothing adds nothing, to any sum.
func TestMoreOfNothing(t *testing.T) {
	room := []byte{9, 9, 9}
	for _, s := range someSums() {
		for _, nothing := range [][]byte{nil, {}, room[:0], room[3:]} {
			if got := More(s, nothing); got != s {
				t.Fatalf("More of %08x and nothing is %08x", s, got)
			}
		}
	}
	if Sum(nil) != 0 || Sum([]byte{}) != 0 || Text("") != 0 || More(0, nil) != 0 {
		t.Error("Sum of nothing is not 0")
	}
}

// P19.3: behind nothing a row's sum is its own.
func TestMoreBehindNothing(t *testing.T) {
	r := draws(17)
	for n := range 65 {
		row := drawn(r, n)
		if got, want := More(Sum(nil), row), Sum(row); got != want {
			t.Fatalf("%s behind nothing: %08x, not %08x", short(row), got, want)
		}
		if got, want := More(0, row), Sum(row); got != want {
			t.Fatalf("%s from 0: %08x, not %08x", short(row), got, want)
		}
	}
}
