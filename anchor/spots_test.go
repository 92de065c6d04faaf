package anchor

import (
	"math"
	"slices"
	"testing"

	"bedrock/api"
)

// around are the numbers, as X or Z, at which In is asked: those near n, those further away, and the ends of all. Some run over where n is near the end of all numbers: that is one to ask at, too.
func around(n int) []int {
	l := []int{math.MinInt, -65537, -65536, 0, 65535, 65536, math.MaxInt}
	for d := range 7 {
		l = append(l, n-3+d)
	}
	slices.Sort(l)
	return slices.Compact(l)
}

// askedAround holds In against what ticks: at each spot that ticks, and around each anchor.
func askedAround(t *testing.T, l anchors, asked []int) {
	t.Helper()
	spots := ticks(l)
	in := map[api.Spot]int{}
	for _, s := range spots {
		in[s]++
		if !In(l, s) {
			t.Fatalf("In(%v, %v) = false", l, s)
		}
	}
	for _, a := range l {
		for _, x := range around(a.Spot.X) {
			for _, z := range around(a.Spot.Z) {
				for _, y := range asked {
					s := spot(x, y, z)
					if got := In(l, s); got != (in[s] > 0) {
						t.Fatalf("In(%v, %v) = %t", l, s, got)
					}
				}
			}
		}
	}
}

// someHeights are enough where In is asked often.
var someHeights = []int{-1, 0, 3, 4}

// P17.2: no anchor, one, or both that are off: nothing ticks, whatever their spots are.
func TestNothingTicks(t *testing.T) {
	strange := []api.Anchor{{}, off(1, 1, 1), off(0, -1, 0), off(65535, 3, -65536), off(math.MinInt, math.MaxInt, math.MinInt), off(math.MaxInt, 0, math.MaxInt)}
	for _, a := range strange {
		for _, b := range strange {
			l := anchors{a, b}
			if got := Spots(l); len(got) != 0 {
				t.Fatalf("Spots(%v) = %v", l, got)
			}
			askedAround(t, l, heights)
		}
	}
}

// P17.2: one anchor alone, be it the first one or the second one, at spots of all sorts and at what is none; the other one is off, whatever its spot is.
func TestOneAlone(t *testing.T) {
	others := []api.Anchor{{}, off(0, 0, 0), off(1, 1, 1), off(-65536, 0, 65535), off(math.MaxInt, math.MinInt, math.MaxInt)}
	n := 0
	for _, x := range levels {
		for _, z := range levels {
			for _, y := range heights {
				n++
				a, b := on(x, y, z), others[n%len(others)]
				told(t, anchors{a, b})
				told(t, anchors{b, a})
			}
			askedAround(t, anchors{on(x, 1, z), others[n%len(others)]}, someHeights)
			askedAround(t, anchors{others[n%len(others)], on(x, heights[n%len(heights)], z)}, someHeights)
		}
	}
}

// P17.2: two that stand at most three apart in X and in Z, in the midst of the world and at its ends: what they share comes once.
func TestTwoBeside(t *testing.T) {
	from := []api.Spot{
		{}, spot(40, 2, -40), spot(-1, 3, 0), spot(-65536, 0, -65536), spot(65535, 3, 65535), spot(-65536, 1, 65535), spot(65535, 0, -65536),
		spot(-65537, 0, 0), spot(0, 0, 65536), spot(65536, 4, 65536), spot(-65537, -1, -65537),
	}
	for i, s := range from {
		for dx := -3; dx <= 3; dx++ {
			for dz := -3; dz <= 3; dz++ {
				a, b := on(s.X, s.Y, s.Z), on(s.X+dx, heights[(i+dx+dz+9)%len(heights)], s.Z+dz)
				told(t, anchors{a, b})
				askedAround(t, anchors{a, b}, someHeights)
				told(t, anchors{a, on(s.X+dx, s.Y, s.Z+dz)})
			}
		}
	}
}

// P17.2: two at one spot, or at spots of unlike Y alone, tick as one does.
func TestTwoAtOne(t *testing.T) {
	for _, x := range edges {
		for _, z := range edges {
			want := ticks(anchors{on(x, 0, z)})
			for _, y := range heights {
				for _, b := range []api.Anchor{on(x, y, z), on(x, 0, z), on(x, 3, z)} {
					if got := Spots(anchors{on(x, y, z), b}); !slices.Equal(got, want) {
						t.Fatalf("Spots of two at %d .. %d = %v, want %v", x, z, got, want)
					}
				}
			}
		}
	}
}

// P17.2: how many tick: of two in the midst of the world that stand so far apart in X and in Z.
func TestHowMany(t *testing.T) {
	shared := []int{3, 2, 1, 0, 0}
	for dx := range 5 {
		for dz := range 5 {
			want := 72 - 4*shared[dx]*shared[dz]
			for _, l := range []anchors{{on(7, 0, 7), on(7+dx, 2, 7+dz)}, {on(-9, 3, 9), on(-9-dx, 3, 9+dz)}, {on(0, 1, 0), on(dx, 0, -dz)}} {
				if n := len(told(t, l)); n != want {
					t.Errorf("of %v there tick %d, want %d", l, n, want)
				}
			}
		}
	}
}

// P17.2: two far apart, at the world's ends, beyond them, and at the ends of all numbers.
func TestTwoAnywhere(t *testing.T) {
	for _, x := range edges {
		for _, z := range edges {
			for i, xx := range edges {
				for k, zz := range edges {
					told(t, anchors{on(x, 0, z), on(xx, heights[(i+k)%len(heights)], zz)})
				}
			}
		}
	}
	r := drawer(2)
	for range 4000 {
		l := anchors{drawn(r, levels), drawn(r, levels)}
		told(t, l)
		askedAround(t, l, someHeights)
	}
}

// P17.2: small numbers at random, where two anchors often share some of what ticks.
func TestTwoAtRandom(t *testing.T) {
	r := drawer(3)
	for range 4000 {
		l := anchors{drawn(r, []int{-3, -2, -1, 0, 1, 2, 3}), drawn(r, []int{-2, -1, 0, 1, 2})}
		told(t, l)
		askedAround(t, l, someHeights)
	}
}

// P17.2: In of what is no spot, and of spots of another Y, of anchors of all sorts.
func TestInAnySpot(t *testing.T) {
	all := []anchors{
		{on(0, 0, 0)}, {on(0, 3, 0), on(65535, 0, 65535)}, {on(-65536, 0, -65536), off(0, 0, 0)}, {on(65536, 9, -65537)},
		{on(math.MaxInt, 0, math.MinInt), on(math.MinInt, 0, math.MaxInt)}, {on(math.MinInt, 0, math.MinInt), on(math.MaxInt, 3, math.MaxInt)},
		{{}, on(65534, -1, 0)}, {on(0, math.MinInt, 1), on(0, math.MaxInt, -1)},
	}
	for _, l := range all {
		spots := ticks(l)
		for _, x := range levels {
			for _, z := range levels {
				for _, y := range heights {
					s := spot(x, y, z)
					if got := In(l, s); got != slices.Contains(spots, s) {
						t.Fatalf("In(%v, %v) = %t", l, s, got)
					}
				}
			}
		}
	}
}

// P17.2: In of each spot around two anchors, one by one, held against the words themselves: near, and a spot.
func TestInByWords(t *testing.T) {
	for _, l := range []anchors{{on(0, 0, 0), on(2, 1, 1)}, {on(-65536, 0, 65535), on(-65534, 3, 65533)}, {on(65535, 2, 65536), on(65537, 0, 65534)}} {
		a, b := l[0].Spot, l[1].Spot
		for x := a.X - 5; x <= a.X+5; x++ {
			for z := a.Z - 5; z <= a.Z+5; z++ {
				for y := -2; y <= 5; y++ {
					s := spot(x, y, z)
					want := isSpot(s) && (away(x, a.X) && away(z, a.Z) || away(x, b.X) && away(z, b.Z))
					if got := In(l, s); got != want {
						t.Fatalf("In(%v, %v) = %t", l, s, got)
					}
				}
			}
		}
	}
}
