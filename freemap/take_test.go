package freemap

import (
	"slices"
	"testing"

	"bedrock/api"
)

// P22.2: so many of a new map, at the edges of a word.
func TestTakeOfNew(t *testing.T) {
	for _, n := range sizes {
		for _, k := range []int{0, 1, 2, 7, 8, 63, 64, 65, 127, 128, 129, 191, 192, 193, 255, 256, n - 1, n} {
			b := fresh(t, n)
			got := b.take(t, k)
			if !slices.Equal(got, some(0, k)) {
				t.Fatalf("New(%d): Take(%d) = %v", n, k, got)
			}
			b.alike(t, "Take")
			if b.m.Free() != n-k {
				t.Fatalf("New(%d): behind Take(%d) Free() = %d", n, k, b.m.Free())
			}
		}
	}
}

// P22.2: below 0, and more than are free: nothing changes.
func TestTakeRefused(t *testing.T) {
	for _, n := range []int{256, 300, 4001, 131072} {
		for _, taken := range []int{0, 1, 64, 255, 256} {
			b := fresh(t, n)
			b.take(t, taken)
			free := n - taken
			for _, k := range append([]int{free + 1, free + 2, free + 64, n + 1, -2, -64, -free, -n}, anyNumbers...) {
				if k >= 0 && k <= free {
					continue
				}
				if l, ok := b.m.Take(k); len(l) != 0 || ok {
					t.Fatalf("New(%d), %d taken: Take(%d) = %v, %t", n, taken, k, l, ok)
				}
				if b.m.Free() != free {
					t.Fatalf("New(%d), %d taken: behind Take(%d) Free() = %d", n, taken, k, b.m.Free())
				}
			}
			b.alike(t, "Take of too many")
			b.take(t, 0)
			b.alike(t, "Take(0)")
			b.take(t, free)
			b.alike(t, "Take of all")
			if l, ok := b.m.Take(0); len(l) != 0 || !ok {
				t.Fatalf("New(%d), all taken: Take(0) = %v, %t", n, l, ok)
			}
			b.take(t, 1)
			b.alike(t, "Take(1) of none")
		}
	}
}

// shapes are ways in which a map's free sectors lie.
var shapes = []func(n, i int) bool{
	func(n, i int) bool { return i%2 == 0 },
	func(n, i int) bool { return i%2 == 1 },
	func(n, i int) bool { return i%64 == 0 },
	func(n, i int) bool { return i%64 == 63 },
	func(n, i int) bool { return i%64 == 0 || i%64 == 63 },
	func(n, i int) bool { return i%64 != 0 && i%64 != 63 },
	func(n, i int) bool { return i/64%2 == 0 },
	func(n, i int) bool { return i/64%2 == 1 },
	func(n, i int) bool { return i == 0 },
	func(n, i int) bool { return i == n-1 },
	func(n, i int) bool { return i == 0 || i == n-1 },
	func(n, i int) bool { return i >= n-65 },
	func(n, i int) bool { return i < 65 },
	func(n, i int) bool { return i*7%11 < 4 },
	func(n, i int) bool { return i%4000 < 3 || i%4000 > 3997 },
	func(n, i int) bool { return i&(i-1) == 0 },
	func(n, i int) bool { return false },
}

// P22.2: of maps whose free sectors lie in many pieces, each number of them.
func TestTakeOfPieces(t *testing.T) {
	for _, n := range []int{256, 257, 319, 320, 321} {
		for s, shape := range shapes {
			first := pieces(t, n, func(i int) bool { return shape(n, i) })
			free := len(first.freeOnes())
			for k := -1; k <= free+1; k++ {
				b := both{first.m.Copy(), slices.Clone(first.free)}
				b.take(t, k)
				if s%4 == k%4 {
					b.alike(t, "Take of pieces")
				}
			}
			first.alike(t, "Takes of its copies")
		}
	}
}

// P22.2: the same of maps of more homes than one, one behind the other until nothing is free.
func TestTakeOnAndOn(t *testing.T) {
	for _, n := range []int{4001, 8000, 12345, 131072} {
		for s, shape := range shapes {
			b := pieces(t, n, func(i int) bool { return shape(n, i) })
			step := 1 + n/97
			for b.m.Free() >= step {
				b.take(t, step)
			}
			b.take(t, step)
			b.take(t, b.m.Free())
			b.alike(t, "Takes of all")
			if b.m.Free() != 0 || len(b.freeOnes()) != 0 {
				t.Fatalf("%d, shape %d: %d are free", n, s, b.m.Free())
			}
		}
	}
}

// P22.2: the last sector, and each one that is the only one.
func TestTakeTheOnlyOne(t *testing.T) {
	for _, n := range []int{256, 257, 383, 4001} {
		b := fresh(t, n)
		b.take(t, n)
		for i := range n {
			b.give(t, i)
			if l := b.take(t, 1); !slices.Equal(l, []int{i}) {
				t.Fatalf("%d, just %d is free: Take(1) = %v", n, i, l)
			}
			if b.m.Free() != 0 || b.m.Has(i) {
				t.Fatalf("%d, %d taken: Free() = %d", n, i, b.m.Free())
			}
		}
		b.alike(t, "Takes of one")
	}
}

// P22.2, R4: the list told is new memory: what is done to it does nothing to the map, nor to what is told next.
func TestTakeIsNewMemory(t *testing.T) {
	b := fresh(t, 256)
	first := b.take(t, 70)
	kept := slices.Clone(first)
	for i := range first {
		first[i] = 255 - i
	}
	_ = append(first, 1, 2, 3)
	b.alike(t, "a change of what Take told")
	second := b.take(t, 70)
	if !slices.Equal(second, some(70, 140)) {
		t.Errorf("Take(70) = %v", second)
	}
	if e := b.give(t, kept...); e != api.OK {
		t.Errorf("Give of what Take told = %d", e)
	}
	b.alike(t, "Give")
}
