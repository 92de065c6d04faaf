package anchor

import (
	"math"
	"testing"

	"bedrock/api"
)

// befores are anchors of all sorts ahead of a call.
func befores() []anchors {
	l := []anchors{{}, {on(0, 0, 0), {}}, {{}, on(0, 0, 0)}, {on(3, 1, -4), on(3, 1, -4)}, {on(5, 3, 7), on(-65536, 0, 65535)}}
	strange := []api.Anchor{
		on(9, -1, 9), on(9, 4, 9), on(65536, 0, -65537), on(math.MinInt, math.MinInt, math.MinInt),
		on(math.MaxInt, math.MaxInt, math.MaxInt), off(4, 2, 4), off(-1, -1, -1), off(math.MaxInt, 0, math.MinInt),
	}
	for i, a := range strange {
		l = append(l, anchors{a, strange[(i+3)%len(strange)]}, anchors{a}, anchors{1: a})
	}
	return l
}

// wides are numbers of a place, as X or Z: inside the world, at its borders, beyond them, and about a chunk's.
var wides = []int{
	math.MinInt, math.MinInt + 1, -1<<32 + 5, -1 << 21, -1048578, -1048577, -1048576, -1048575, -1048561, -1048560, -1048559,
	-257, -256, -33, -32, -31, -17, -16, -15, -2, -1, 0, 1, 8, 15, 16, 17, 31, 32, 255, 256,
	1048558, 1048559, 1048560, 1048574, 1048575, 1048576, 1048577, 1 << 21, 1<<32 + 5, math.MaxInt - 1, math.MaxInt,
}

// highs are such as Y.
var highs = []int{math.MinInt, math.MinInt + 1, -64, -16, -2, -1, 0, 1, 14, 15, 16, 17, 31, 32, 47, 48, 62, 63, 64, 65, 1 << 32, 1<<32 + 5, math.MaxInt - 1, math.MaxInt}

func isPlace(p api.Place) bool {
	return p.X >= -1048576 && p.X < 1048576 && p.Z >= -1048576 && p.Z < 1048576 && p.Y >= 0 && p.Y < 64
}

// sixteenth is a sixteenth of a number of a place, rounded down.
func sixteenth(n int) int { return int(math.Floor(float64(n) / 16)) }

// put is what the document says that Put answers.
func put(l anchors, id int, p api.Place) (anchors, api.Errno) {
	switch {
	case id != 0 && id != 1:
		return anchors{}, api.ErrArg
	case !isPlace(p):
		return anchors{}, api.ErrPlace
	}
	l[id] = on(sixteenth(p.X), sixteenth(p.Y), sixteenth(p.Z))
	return l, api.OK
}

// putAlike holds Put against the account.
func putAlike(t *testing.T, l anchors, id int, p api.Place) {
	t.Helper()
	got, e := Put(l, id, p)
	if want, err := put(l, id, p); got != want || e != err {
		t.Fatalf("Put(%v, %d, %v) = %v, %d, want %v, %d", l, id, p, got, e, want, err)
	}
}

// P17.1: Put at places inside the world, at its borders and beyond them, whatever the anchors were.
func TestPutPlaces(t *testing.T) {
	all := befores()
	n := 0
	for _, x := range wides {
		for _, y := range highs {
			for _, z := range wides {
				for id := range 2 {
					putAlike(t, all[n%len(all)], id, place3(x, y, z))
				}
				n++
			}
		}
	}
	for _, l := range all {
		for _, p := range []api.Place{{}, place3(-1, 63, -1), place3(1048575, 0, -1048576), place3(0, -1, 0), place3(1048576, 0, 0), place3(0, 0, -1048577)} {
			putAlike(t, l, 0, p)
			putAlike(t, l, 1, p)
		}
	}
}

// P17.1: each place of some chunks, at the world's ends among them, puts the anchor on at that chunk's spot.
func TestPutWholeChunks(t *testing.T) {
	for _, s := range []api.Spot{{}, spot(-1, 0, -1), spot(2, 3, -3), spot(-65536, 1, 65535), spot(65535, 2, -65536)} {
		want := anchors{{}, {Spot: s, On: true}}
		for x := range 16 {
			for y := range 16 {
				for z := range 16 {
					p := place3(16*s.X+x, 16*s.Y+y, 16*s.Z+z)
					if got, e := Put(anchors{}, 1, p); got != want || e != api.OK {
						t.Fatalf("Put(.., 1, %v) = %v, %d, want %v", p, got, e, want)
					}
				}
			}
		}
	}
}

// P17.1: Put with an id that is none is ErrArg, also where what is handed in is no place.
func TestPutNoID(t *testing.T) {
	for _, l := range befores() {
		for _, id := range noIDs {
			for _, p := range []api.Place{{}, place3(5, 20, -1), place3(0, 64, 0), place3(0, -1, 0), place3(math.MinInt, math.MaxInt, math.MinInt)} {
				if got, e := Put(l, id, p); got != (anchors{}) || e != api.ErrArg {
					t.Fatalf("Put(%v, %d, %v) = %v, %d", l, id, p, got, e)
				}
			}
		}
	}
}

// P17.1: Lift of an anchor that is on, of one that is off, with ids that are none.
func TestLift(t *testing.T) {
	for _, l := range befores() {
		if got, e := Lift(l, 0); got != (anchors{{}, l[1]}) || e != api.OK {
			t.Errorf("Lift(%v, 0) = %v, %d", l, got, e)
		}
		if got, e := Lift(l, 1); got != (anchors{l[0], {}}) || e != api.OK {
			t.Errorf("Lift(%v, 1) = %v, %d", l, got, e)
		}
		for _, id := range noIDs {
			if got, e := Lift(l, id); got != (anchors{}) || e != api.ErrArg {
				t.Errorf("Lift(%v, %d) = %v, %d", l, id, got, e)
			}
		}
	}
}

// P17.1: rows of Put and Lift, each upon what the one before it answered.
func TestPutAndLift(t *testing.T) {
	r := drawer(1)
	for _, l := range befores() {
		for range 300 {
			id := r.IntN(2)
			if r.IntN(3) == 0 {
				want := l
				want[id] = api.Anchor{}
				got, e := Lift(l, id)
				if got != want || e != api.OK {
					t.Fatalf("Lift(%v, %d) = %v, %d", l, id, got, e)
				}
				l = got
				continue
			}
			p := place3(r.IntN(1<<21)-1<<20, r.IntN(64), r.IntN(1<<21)-1<<20)
			putAlike(t, l, id, p)
			l, _ = Put(l, id, p)
		}
	}
}
