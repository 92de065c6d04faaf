package freemap

import (
	"math"
	"slices"
	"testing"

	"bedrock/api"
)

// noSizes are the numbers of sectors of no map.
func noSizes() []int {
	l := slices.Clone(anyNumbers)
	l = slices.DeleteFunc(l, func(n int) bool { return n == 131072 })
	return append(l, 0, 1, 2, 63, 64, 254, 255, 131073, 131074, 1<<18, 1<<32+256, 1<<32+4000, -131071)
}

// P22.1: New refuses what is no number of sectors, and Size tells 0 of it.
func TestNoMap(t *testing.T) {
	for _, n := range noSizes() {
		if m, e := New(n); m != nil || e != api.ErrArg {
			t.Errorf("New(%d) = %v, %d", n, m != nil, e)
		}
		if got := Size(n); got != 0 {
			t.Errorf("Size(%d) = %d", n, got)
		}
	}
}

// P22.1: of a new map all sectors are free, and there are no others.
func TestNew(t *testing.T) {
	for _, n := range sizes {
		b := fresh(t, n)
		b.alike(t, "New")
		if b.m.Len() != n || b.m.Free() != n {
			t.Errorf("New(%d): Len() = %d, Free() = %d", n, b.m.Len(), b.m.Free())
		}
		for _, i := range []int{0, 1, 63, 64, 65, n - 1} {
			if !b.m.Has(i) {
				t.Errorf("New(%d): Has(%d) = false", n, i)
			}
		}
		for _, i := range append([]int{n, n + 1, n + 63, n + 64, 2 * n, -n, 1<<32 + n - 1, math.MinInt + n - 1}, anyNumbers...) {
			if b.m.Has(i) {
				t.Errorf("New(%d): Has(%d) = true", n, i)
			}
		}
		b.alike(t, "Has")
	}
}

// P22.1: how many homes a map has, at their edges.
func TestSize(t *testing.T) {
	for _, x := range [][2]int{
		{256, 1}, {257, 1}, {3999, 1}, {4000, 1}, {4001, 2}, {4002, 2}, {7999, 2}, {8000, 2}, {8001, 3},
		{127999, 32}, {128000, 32}, {128001, 33}, {131071, 33}, {131072, 33},
	} {
		if got := Size(x[0]); got != x[1] {
			t.Errorf("Size(%d) = %d, not %d", x[0], got, x[1])
		}
	}
}

// P22.1, P22.4: Size, New and Homes agree for each number of sectors.
func TestAllSizes(t *testing.T) {
	size := 1
	for n := 256; n <= 131072; n++ {
		if n > size*4000 {
			size++
		}
		if got := Size(n); got != size {
			t.Fatalf("Size(%d) = %d, not %d", n, got, size)
		}
	}
	for n := 256; n < 2400; n++ {
		b := fresh(t, n)
		if b.m.Len() != n || b.m.Free() != n || !b.m.Has(n-1) || b.m.Has(n) {
			t.Fatalf("New(%d): Len() = %d, Free() = %d, Has(%d) = %t, Has(%d) = %t", n, b.m.Len(), b.m.Free(), n-1, b.m.Has(n-1), n, b.m.Has(n))
		}
	}
}

// P22.1: Has and Free, as sectors are taken one by one, and given.
func TestFreeAndHas(t *testing.T) {
	for _, n := range []int{256, 257, 321} {
		b := fresh(t, n)
		for i := range n {
			j := i * 129 % n
			if n%3 == 0 {
				j = n - 1 - i
			}
			b.keep(t, j)
			if b.m.Has(j) || b.m.Free() != n-1-i {
				t.Fatalf("%d: behind Keep(%d) Has is %t, Free() = %d", n, j, b.m.Has(j), b.m.Free())
			}
			b.alike(t, "Keep")
		}
		if b.m.Free() != 0 {
			t.Fatalf("%d: all kept, Free() = %d", n, b.m.Free())
		}
		for i := range n {
			b.give(t, i)
			if !b.m.Has(i) || b.m.Free() != i+1 {
				t.Fatalf("%d: behind Give(%d) Has is %t, Free() = %d", n, i, b.m.Has(i), b.m.Free())
			}
			b.alike(t, "Give")
		}
	}
}
