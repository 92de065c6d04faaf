package freemap

import (
	"math"
	"slices"
	"strconv"
	"testing"

	"bedrock/api"
)

// P22.3: Give of what is taken, and Keep of what is free: in any order, all or none of them.
func TestGiveAndKeep(t *testing.T) {
	for _, n := range sizes {
		b := fresh(t, n)
		all := some(0, n)
		down := slices.Clone(all)
		slices.Reverse(down)
		for _, l := range [][]int{nil, {}, {0}, {n - 1}, {63, 64, 65}, {n - 1, 0, 128}, {255, 254, 3, 127, 64}, all, down} {
			if e := b.keep(t, l...); e != api.OK {
				t.Fatalf("%d: Keep of %d = %d", n, len(l), e)
			}
			b.alike(t, "Keep")
			if b.m.Free() != n-len(l) {
				t.Fatalf("%d: behind Keep of %d Free() = %d", n, len(l), b.m.Free())
			}
			if e := b.give(t, l...); e != api.OK {
				t.Fatalf("%d: Give of %d = %d", n, len(l), e)
			}
			b.alike(t, "Give")
		}
	}
}

// bad is a list that Give, or Keep, refuses.
type bad struct {
	name string
	l    []int
}

// badLists are lists of which a number may not be, ahead of good ones, behind them, and among them.
func badLists(n int, good []int, wrong int) []bad {
	noSectors := append([]int{n, n + 1, n + 63, n + 64, math.MaxInt - 63, math.MinInt + 63, 1<<32 + good[0], good[0] - 1<<32, math.MinInt + good[0]}, anyNumbers...)
	var l []bad
	put := func(name string, i int) {
		l = append(l,
			bad{name + " alone", []int{i}},
			bad{name + " ahead", append([]int{i}, good...)},
			bad{name + " behind", append(slices.Clone(good), i)},
			bad{name + " among", slices.Insert(slices.Clone(good), len(good)/2, i)},
		)
	}
	for _, i := range noSectors {
		if i < 0 || i >= n {
			put("no sector "+strconv.Itoa(i), i)
		}
	}
	put("wrong", wrong)
	for _, i := range []int{0, len(good) / 2, len(good) - 1} {
		twice := good[i]
		l = append(l,
			bad{"twice, ahead", append([]int{twice}, good...)},
			bad{"twice, behind", append(slices.Clone(good), twice)},
			bad{"twice, next", slices.Insert(slices.Clone(good), i, twice)},
			bad{"twice, alone", []int{twice, twice}},
			bad{"three times", []int{twice, twice, twice}},
			bad{"four times", append([]int{twice, twice, twice}, good...)},
		)
	}
	return append(l,
		bad{"all twice", append(slices.Clone(good), good...)},
		bad{"wrong, and no sector", append(slices.Clone(good), wrong, n)},
		bad{"wrong, twice", append(slices.Clone(good), wrong, wrong)},
		bad{"no sector, twice", append(slices.Clone(good), n, n)},
		bad{"no sector, and twice", append([]int{-1}, twiceOf(good)...)},
	)
}

func twiceOf(l []int) []int { return append(slices.Clone(l), l...) }

// P22.3: Give refuses, and nothing changes.
func TestGiveRefused(t *testing.T) {
	for _, n := range []int{256, 257, 320, 4001} {
		b := fresh(t, n)
		good := []int{5, 0, 63, 64, 127, 128, n - 1, 200}
		b.keep(t, good...)
		b.keep(t, 9, 10)
		for _, x := range badLists(n, good, 66) {
			if e := b.give(t, x.l...); e != api.ErrArg {
				t.Fatalf("%d: Give(%v) (%s) = %d", n, x.l, x.name, e)
			}
			b.alike(t, "Give, "+x.name)
		}
		if e := b.give(t, good...); e != api.OK {
			t.Fatalf("%d: Give(%v) = %d", n, good, e)
		}
		b.alike(t, "Give")
	}
}

// P22.3: Keep refuses, and nothing changes.
func TestKeepRefused(t *testing.T) {
	for _, n := range []int{256, 257, 320, 4001} {
		b := pieces(t, n, func(i int) bool { return i%3 != 1 && i != 66 || i == 64 || i == n-1 })
		good := []int{6, 0, 63, 64, 128, 125, n - 1, 200}
		for _, x := range badLists(n, good, 66) {
			if e := b.keep(t, x.l...); e != api.ErrArg {
				t.Fatalf("%d: Keep(%v) (%s) = %d", n, x.l, x.name, e)
			}
			b.alike(t, "Keep, "+x.name)
		}
		if e := b.keep(t, good...); e != api.OK {
			t.Fatalf("%d: Keep(%v) = %d", n, good, e)
		}
		b.alike(t, "Keep")
	}
}

// P22.3: each sector alone is given just if it is taken, and kept just if it is free.
func TestGiveAndKeepOfEach(t *testing.T) {
	for s, shape := range shapes {
		b := pieces(t, 321, func(i int) bool { return shape(321, i) })
		for i := -2; i < 324; i++ {
			b.give(t, i)
			b.give(t, i)
			b.keep(t, i)
			b.keep(t, i)
		}
		b.alike(t, "Give and Keep of each")
		if b.m.Free() != 0 {
			t.Fatalf("shape %d: all kept, Free() = %d", s, b.m.Free())
		}
	}
}

// P22.3: all sectors, at once, of a map that has all, none, or some of them free.
func TestGiveAndKeepOfAll(t *testing.T) {
	for _, n := range []int{256, 257, 4000, 4001, 131072} {
		all := some(0, n)
		b := fresh(t, n)
		b.give(t, all...)
		b.alike(t, "Give of all, which are free")
		b.keep(t, all...)
		b.alike(t, "Keep of all")
		b.keep(t, all...)
		b.alike(t, "Keep of all again")
		b.give(t, append(some(0, n), n-1)...)
		b.alike(t, "Give of all, and the last once more")
		b.give(t, all...)
		b.alike(t, "Give of all")
		b.keep(t, n-1)
		b.keep(t, all...)
		b.alike(t, "Keep of all, but the last is taken")
		b.give(t, all...)
		b.alike(t, "Give of all, but just the last is taken")
	}
}

// P22.3, R4: the list is not kept: what is done to it behind the call does nothing to the map.
func TestListIsNotKept(t *testing.T) {
	b := fresh(t, 256)
	l := []int{3, 4, 5, 6}
	b.keep(t, l[:2]...)
	l[0], l[1] = 100, 101
	b.alike(t, "Keep, and a change of the list")
	b.give(t, 3)
	b.give(t, 4)
	b.alike(t, "Give")
	if !slices.Equal(l, []int{100, 101, 5, 6}) {
		t.Errorf("the list is %v", l)
	}
}
