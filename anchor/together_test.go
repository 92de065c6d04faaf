package anchor

import (
	"math"
	"slices"
	"testing"

	"bedrock/api"
)

// pairs are two anchors of all sorts: beside each other, far apart, at the world's ends, at what is no spot, on and off.
func pairs() []anchors {
	r := drawer(4)
	l := befores()
	for range 1500 {
		l = append(l, anchors{drawn(r, levels), drawn(r, levels)}, anchors{drawn(r, edges), drawn(r, edges)}, anchors{drawn(r, []int{-1, 0, 1}), drawn(r, []int{-1, 0, 1, 2})})
	}
	return l
}

// inFours tells whether with each spot there are those of its X and Z, in their order.
func inFours(l []api.Spot) bool {
	if len(l)%4 != 0 {
		return false
	}
	for i, s := range l {
		first := l[i-i%4]
		if s != spot(first.X, i%4, first.Z) {
			return false
		}
	}
	return true
}

// rises tells whether each spot stands ahead of the next one, by X, then Z, then Y.
func rises(l []api.Spot) bool {
	for i := 1; i < len(l); i++ {
		a, b := l[i-1], l[i]
		if slices.Compare([]int{a.X, a.Z, a.Y}, []int{b.X, b.Z, b.Y}) >= 0 {
			return false
		}
	}
	return true
}

// P17.3: at most 36 spots of one anchor and 72 of two, in fours, in order, and all of them spots; the two changed about: the same ones.
func TestTogether(t *testing.T) {
	most := 0
	for _, l := range pairs() {
		got := Spots(l)
		both, one, other := len(got), len(Spots(anchors{l[0]})), len(Spots(anchors{1: l[1]}))
		if one > 36 || other > 36 || both > one+other || both < max(one, other) {
			t.Fatalf("of %v there tick %d, of each alone %d and %d", l, both, one, other)
		}
		if !inFours(got) || !rises(got) {
			t.Fatalf("Spots(%v) = %v", l, got)
		}
		for _, s := range got {
			if !isSpot(s) {
				t.Fatalf("Spots(%v) tells %v", l, s)
			}
		}
		about := anchors{l[1], l[0]}
		if changed := Spots(about); !slices.Equal(changed, got) {
			t.Fatalf("Spots(%v) = %v, but the other way round %v", l, got, changed)
		}
		most = max(most, both)
	}
	if most != 72 {
		t.Fatalf("at most %d tick at once", most)
	}
}

// P17.3: what In tells does not hang on which of the two is which, either.
func TestInChangedAbout(t *testing.T) {
	for _, l := range pairs()[:600] {
		about := anchors{l[1], l[0]}
		for _, a := range l {
			for _, s := range []api.Spot{a.Spot, spot(a.Spot.X+1, 0, a.Spot.Z-1), spot(a.Spot.X-1, 3, a.Spot.Z+1), spot(a.Spot.X+2, 0, a.Spot.Z), spot(a.Spot.X, 4, a.Spot.Z)} {
				if In(l, s) != In(about, s) {
					t.Fatalf("In(%v, %v) = %t, but not the other way round", l, s, In(l, s))
				}
			}
		}
	}
}

// P17.3: one that is put and lifted leaves the other one as it was, and what ticks is what that one lets.
func TestPutThenLifted(t *testing.T) {
	places := []api.Place{{}, place3(-1, 63, -1), place3(1048575, 0, -1048576), place3(100, 20, -100)}
	for i, l := range pairs() {
		for id := range 2 {
			other := anchors{}
			other[1-id] = l[1-id]
			up, e := Put(l, id, places[i%len(places)])
			down, err := Lift(up, id)
			if e != api.OK || err != api.OK || up[1-id] != l[1-id] || down != other {
				t.Fatalf("of %v the anchor %d put and lifted: %v, %d, then %v, %d", l, id, up, e, down, err)
			}
			told(t, up)
			if got := told(t, down); !slices.Equal(got, Spots(other)) {
				t.Fatalf("Spots(%v) = %v", down, got)
			}
			if s := up[id].Spot; In(down, s) != slices.Contains(ticks(other), s) {
				t.Fatalf("In(%v, %v) = %t", down, s, In(down, s))
			}
		}
	}
}

// P17.3: an anchor put on at a place's spot lets just the spots around that place's chunk tick.
func TestPutTicks(t *testing.T) {
	for _, p := range []api.Place{{}, place3(-1, 20, 15), place3(1048575, 63, 1048575), place3(-1048576, 0, 16), place3(31, 5, -17)} {
		l, e := Put(anchors{}, 1, p)
		if e != api.OK {
			t.Fatalf("Put(.., 1, %v): %d", p, e)
		}
		want := ticks(anchors{on(sixteenth(p.X), 0, sixteenth(p.Z))})
		if got := Spots(l); !slices.Equal(got, want) || !In(l, spot(sixteenth(p.X), 2, sixteenth(p.Z))) {
			t.Errorf("put on at %v there tick %v", p, got)
		}
	}
}

// P17.4, R1: no call panics, with any numbers at once.
func TestNoPanic(t *testing.T) {
	numbers := []int{math.MinInt, math.MinInt + 1, -65537, -1, 0, 1, 3, 4, 65535, 65536, math.MaxInt - 1, math.MaxInt}
	for _, x := range numbers {
		for _, y := range numbers {
			for _, z := range numbers {
				l := anchors{on(x, y, z), on(z, x, y)}
				told(t, l)
				for _, id := range numbers {
					Put(l, id, place3(y, z, x))
					Lift(l, id)
				}
				In(l, spot(x, y, z))
				In(l, spot(y, z, x))
				In(anchors{off(x, y, z), {}}, spot(x, y, z))
			}
		}
	}
}

// spoil writes over the list and the room behind it.
func spoil(l []api.Spot, by api.Spot) {
	l = l[:cap(l)]
	for i := range l {
		l[i] = by
	}
}

// P17.4, R4: what Spots answers is new memory, and the array that is handed in stays as it was.
func TestNewMemory(t *testing.T) {
	for _, l := range pairs()[:300] {
		before := l
		first, second := Spots(l), Spots(l)
		want := ticks(l)
		for _, by := range []api.Spot{{}, spot(-9, -9, -9), spot(math.MaxInt, 0, math.MinInt)} {
			spoil(first, by)
			if !slices.Equal(second, want) {
				t.Fatalf("a change of one answer made another one %v of %v", second, l)
			}
			spoil(Spots(l), by)
			told(t, l)
		}
		Put(l, 0, api.Place{})
		Put(l, 1, api.Place{X: 77})
		Lift(l, 0)
		Lift(l, 1)
		In(l, api.Spot{})
		if l != before {
			t.Fatalf("%v are %v now", before, l)
		}
		if !slices.Equal(second, want) {
			t.Fatalf("what was asked behind it made an answer %v of %v", second, l)
		}
	}
}

// R6: what is answered hangs on what is handed in alone, and not on the order in which a map is gone through.
func TestAskedAgain(t *testing.T) {
	for _, l := range pairs()[:60] {
		want := ticks(l)
		for range 40 {
			if got := Spots(l); !slices.Equal(got, want) {
				t.Fatalf("Spots(%v) = %v, want %v", l, got, want)
			}
			Spots(anchors{l[1]})
		}
	}
}
