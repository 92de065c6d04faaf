package flow

import (
	"maps"
	"math/rand/v2"
	"slices"
	"testing"

	"bedrock/api"
)

// world is cells by places: what is not named is a hollow in the Stone.
type world map[api.Place]api.Cell

func at(x, y, z int) api.Place { return api.Place{X: x, Y: y, Z: z} }

// steps are what the directions add.
var steps = [6]api.Place{at(1, 0, 0), at(-1, 0, 0), at(0, 0, 1), at(0, 0, -1), at(0, 1, 0), at(0, -1, 0)}

func step(p api.Place, dir int) api.Place {
	return at(p.X+steps[dir].X, p.Y+steps[dir].Y, p.Z+steps[dir].Z)
}

func (f world) cell(p api.Place) api.Cell {
	if c, ok := f[p]; ok {
		return c
	}
	return stone
}

// near is what is near a place.
func (f world) near(p api.Place) api.Near {
	n := api.Near{Self: f.cell(p)}
	for dir := range n.Sides {
		n.Sides[dir] = f.cell(step(p, dir))
	}
	for dir := range n.Unders {
		n.Unders[dir] = f.cell(step(step(p, dir), 5))
	}
	return n
}

// do makes the changes of a deed at a place, and tells where they are.
func (f world) do(p api.Place, d api.Deed) []api.Place {
	var l []api.Place
	for _, x := range d.Changes {
		q := p
		if x.Dir > 0 {
			q = step(p, x.Dir-1)
		}
		f[q] = x.Cell
		l = append(l, q)
	}
	return l
}

// eachPlace goes through a box's places.
func eachPlace(x, y, z int, do func(p api.Place)) {
	for i := range x * y * z {
		do(at(i%x, i/x/z, i/x%z))
	}
}

// someWorld is a world of cells of the list at random.
func someWorld(r *rand.Rand, l []api.Cell) world {
	f := world{}
	eachPlace(5, 4, 5, func(p api.Place) { f[p] = one(r, l) })
	return f
}

// given tells where the level that water gave is less than the one that the place then wants, or below is another one.
func given(t *testing.T, f world, p, q api.Place) {
	t.Helper()
	level, ok := Want(f.near(q))
	gave := f[q].Level
	if !ok || level > gave || q.Y < p.Y && level != gave {
		t.Fatalf("%v gives %v at %v, which then wants %d, %t", p, f[q], q, level, ok)
	}
}

// P12.3: what water gives to a level side, that side then wants, or a lesser level; what it gives to the side below, that wants. No source is changed.
func TestWhatIsGiven(t *testing.T) {
	r := drawer(21)
	for _, l := range mixtures() {
		for range 150 {
			before := someWorld(r, l)
			eachPlace(5, 4, 5, func(p api.Place) {
				f := maps.Clone(before)
				for _, q := range f.do(p, Next(f.near(p))) {
					if before[q] == w(0) {
						t.Fatalf("%v changes the source at %v to %v", p, q, f[q])
					}
					if q != p {
						given(t, f, p, q)
					}
				}
			})
		}
	}
}

// feedsNothing are cells beside a row that are no Water, and Water over what does not hold it.
func feedsNothing(r *rand.Rand) (side, under api.Cell) {
	if r.IntN(2) == 0 {
		return one(r, slices.Concat(soaked, solid, wrong)), one(r, someCells())
	}
	return one(r, waters), one(r, slices.Concat(waters, soaked))
}

// row is flowing water, and a few other cells, at one place behind the other along a direction, whose other neighbours feed nothing.
func row(r *rand.Rand, dir, length int) (world, []api.Place) {
	f := world{}
	var places []api.Place
	for p := at(0, 0, 0); len(places) < length; p = step(p, dir) {
		places = append(places, p)
	}
	beside := func(p api.Place, across int) {
		side := step(p, across)
		f[side], f[step(side, 5)] = feedsNothing(r)
	}
	beside(places[0], dir^1)
	beside(places[length-1], dir)
	for _, p := range places {
		beside(p, dir^2)
		beside(p, dir^3)
		f[step(p, 4)] = one(r, slices.Concat(soaked, solid, wrong))
		f[step(p, 5)] = one(r, slices.Concat(solid, solid, solid, solid, waters))
		f[p] = w(uint8(1 + r.IntN(7)))
		if r.IntN(9) == 0 {
			f[p] = one(r, slices.Concat(soaked, solid, wrong))
		}
	}
	return f, places
}

// turn brings all flowing water of the row to what it wants, or to Air, at the same time, and tells how much is left.
func turn(t *testing.T, f world, places []api.Place) (left int) {
	t.Helper()
	before := maps.Clone(f)
	for _, p := range places {
		n := before.near(p)
		if !wet(n.Self) {
			continue
		}
		level, ok := Want(n)
		if !ok {
			f[p] = air
			does(t, n, to(0, air))
			continue
		}
		f[p] = w(level)
		left++
		if level != n.Self.Level {
			does(t, n, to(0, w(level)))
		}
	}
	return left
}

// P12.3: flowing water of a row whose other neighbours feed nothing is gone behind seven turns.
func TestRowIsGone(t *testing.T) {
	r := drawer(22)
	for length := 1; length <= 24; length++ {
		for range 100 {
			f, places := row(r, r.IntN(4), length)
			first := maps.Clone(f)
			for range 6 {
				turn(t, f, places)
			}
			if left := turn(t, f, places); left != 0 {
				t.Fatalf("a row of %v keeps %d behind seven turns", first, left)
			}
		}
	}
}

// P12.3: two that feed each other last for just as long.
func TestRowLasts(t *testing.T) {
	f := world{at(0, 0, 0): w(1), at(1, 0, 0): w(1)}
	places := []api.Place{at(0, 0, 0), at(1, 0, 0)}
	for i, left := range []int{2, 2, 2, 2, 2, 2, 0} {
		if got := turn(t, f, places); got != left {
			t.Errorf("behind %d turns there are %d left, want %d", i+1, got, left)
		}
	}
}

// rest lets all water of the box do what it does, place by place, until nothing changes.
func rest(f world, x, y, z int) {
	for changes := 1; changes > 0; {
		changes = 0
		eachPlace(x, y, z, func(p api.Place) { changes += len(f.do(p, Next(f.near(p)))) })
	}
}

// count tells how many places have Water.
func count(f world) (n int) {
	for _, c := range f {
		if wet(c) {
			n++
		}
	}
	return n
}

func far(a, b int) int { return max(a, b) - min(a, b) }

// The document's example of the whole: a source on flat land is a square of 113 cells, and all are gone when it is gone.
func TestSourceOnFlatLand(t *testing.T) {
	f := world{}
	eachPlace(21, 2, 21, func(p api.Place) { f[p] = air })
	source := at(10, 0, 10)
	f[source] = w(0)
	rest(f, 21, 2, 21)
	if n := count(f); n != 113 {
		t.Errorf("there are %d cells of Water, want 113", n)
	}
	for p, c := range f {
		want := air
		if away := far(p.X, 10) + far(p.Z, 10); p.Y == 0 && away <= 7 {
			want = w(uint8(away))
		}
		if c != want {
			t.Errorf("at %v is %v, want %v", p, c, want)
		}
	}
	f[source] = air
	rest(f, 21, 2, 21)
	if n := count(f); n != 0 {
		t.Errorf("there are %d cells of Water left", n)
	}
}

// Water falls over an edge as a column of the level 1, and spreads anew just where it lands.
func TestOverAnEdge(t *testing.T) {
	f := world{}
	eachPlace(20, 4, 1, func(p api.Place) { f[p] = air })
	for x := range 8 {
		for y := range 3 {
			f[at(x, y, 0)] = stone
		}
	}
	f[at(6, 3, 0)] = w(0)
	rest(f, 20, 4, 1)
	for x, want := range []api.Cell{w(6), w(5), w(4), w(3), w(2), w(1), w(0), w(1), w(2), air} {
		if c := f[at(x, 3, 0)]; c != want {
			t.Errorf("at %d above is %v, want %v", x, c, want)
		}
	}
	for x, want := range []api.Cell{w(1), w(2), w(3), w(4), w(5), w(6), w(7), air, air, air, air, air} {
		if c := f[at(x+8, 0, 0)]; c != want {
			t.Errorf("at %d below is %v, want %v", x+8, c, want)
		}
	}
	for y := 1; y <= 2; y++ {
		if a, b := f[at(8, y, 0)], f[at(9, y, 0)]; a != w(1) || b != air {
			t.Errorf("at the height %d are %v and %v, want Water of the level 1 and Air", y, a, b)
		}
	}
}
