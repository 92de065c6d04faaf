package place

import (
	"iter"
	"math"
	"slices"
	"testing"

	"bedrock/api"
)

// number is one of a place's or a spot's, and whether it is in its range.
type number struct {
	n  int
	in bool
}

// The document's ranges, written out anew: each end, one beyond it, what is next to a chunk's edge, the ends of int.
var (
	wides = []number{
		{math.MinInt, false}, {-1048577, false}, {-1048576, true}, {-1048575, true}, {-17, true}, {-16, true}, {-15, true}, {-1, true},
		{0, true}, {1, true}, {15, true}, {16, true}, {17, true}, {1048574, true}, {1048575, true}, {1048576, false}, {math.MaxInt, false},
	}
	highs = []number{
		{math.MinInt, false}, {-1, false}, {0, true}, {1, true}, {15, true}, {16, true}, {17, true},
		{47, true}, {48, true}, {62, true}, {63, true}, {64, false}, {math.MaxInt, false},
	}
	spotWides = []number{
		{math.MinInt, false}, {-65537, false}, {-65536, true}, {-65535, true}, {-1, true}, {0, true},
		{1, true}, {65534, true}, {65535, true}, {65536, false}, {math.MaxInt, false},
	}
	spotHighs = []number{{math.MinInt, false}, {-1, false}, {0, true}, {1, true}, {2, true}, {3, true}, {4, false}, {math.MaxInt, false}}
	indexes   = []number{{math.MinInt, false}, {-1, false}, {0, true}, {271, true}, {4095, true}, {4096, false}, {math.MaxInt, false}}
)

// threes goes through all threes of these numbers.
func threes(wides, highs []number, do func(x, y, z int, in bool)) {
	for _, x := range wides {
		for _, y := range highs {
			for _, z := range wides {
				do(x.n, y.n, z.n, x.in && y.in && z.in)
			}
		}
	}
}

func eachPlace(do func(p api.Place, may bool)) {
	threes(wides, highs, func(x, y, z int, in bool) { do(at(x, y, z), in) })
}

func eachSpot(do func(s api.Spot, may bool)) {
	threes(spotWides, spotHighs, func(x, y, z int, in bool) { do(api.Spot{X: x, Y: y, Z: z}, in) })
}

func at(x, y, z int) api.Place { return api.Place{X: x, Y: y, Z: z} }

// noPlaces are each one number beyond, or far beyond, its range.
var noPlaces = []api.Place{
	at(-1048577, 0, 0), at(1048576, 0, 0), at(0, -1, 0), at(0, 64, 0), at(0, 0, -1048577), at(0, 0, 1048576),
	at(math.MinInt, 0, 0), at(math.MaxInt, 0, 0), at(0, math.MinInt, 0), at(0, math.MaxInt, 0), at(0, 0, math.MinInt), at(0, 0, math.MaxInt),
	at(math.MinInt, math.MinInt, math.MinInt), at(math.MaxInt, math.MaxInt, math.MaxInt),
}

// down divides by 16, rounding down, without a shift.
func down(n int) int { return int(math.Floor(float64(n) / 16)) }

func modulo(n int) int { return n - 16*down(n) }

// steps are the directions' steps, as the document tells them.
var steps = []api.Place{at(1, 0, 0), at(-1, 0, 0), at(0, 0, 1), at(0, 0, -1), at(0, 1, 0), at(0, -1, 0)}

func plus(p, q api.Place) api.Place { return at(p.X+q.X, p.Y+q.Y, p.Z+q.Z) }

// P2.1
func TestMay(t *testing.T) {
	eachPlace(func(p api.Place, may bool) {
		if got := May(p); got != may {
			t.Errorf("May(%v) = %v, want %v", p, got, may)
		}
	})
	for _, p := range noPlaces {
		if May(p) {
			t.Errorf("May(%v) = true", p)
		}
	}
}

// P2.1
func TestMaySpot(t *testing.T) {
	eachSpot(func(s api.Spot, may bool) {
		if got := MaySpot(s); got != may {
			t.Errorf("MaySpot(%v) = %v, want %v", s, got, may)
		}
	})
}

// P2.2
func TestSpotAndIndex(t *testing.T) {
	eachPlace(func(p api.Place, may bool) {
		var spot api.Spot
		var index int
		if may {
			spot = api.Spot{X: down(p.X), Y: down(p.Y), Z: down(p.Z)}
			index = modulo(p.Y)*256 + modulo(p.Z)*16 + modulo(p.X)
		}
		if got, ok := Spot(p); got != spot || ok != may {
			t.Errorf("Spot(%v) = %v, %v, want %v, %v", p, got, ok, spot, may)
		}
		if got, ok := Index(p); got != index || ok != may {
			t.Errorf("Index(%v) = %d, %v, want %d, %v", p, got, ok, index, may)
		}
	})
}

// P2.2
func TestOf(t *testing.T) {
	eachSpot(func(s api.Spot, may bool) {
		for _, i := range indexes {
			var want api.Place
			if may && i.in {
				want = at(16*s.X+i.n%16, 16*s.Y+i.n/256, 16*s.Z+i.n/16%16)
			}
			if got, ok := Of(s, i.n); got != want || ok != (may && i.in) {
				t.Errorf("Of(%v, %d) = %v, %v, want %v, %v", s, i.n, got, ok, want, may && i.in)
			}
		}
	})
}

// P2.2: all indexes of a chunk, each a place of its own.
func TestOfAllIndexes(t *testing.T) {
	for _, s := range []api.Spot{{}, {X: -65536, Y: 3, Z: 65535}, {X: 65535, Y: 1, Z: -1}} {
		index := 0
		for y := range 16 {
			for z := range 16 {
				for x := range 16 {
					want := at(16*s.X+x, 16*s.Y+y, 16*s.Z+z)
					if got, ok := Of(s, index); got != want || !ok {
						t.Errorf("Of(%v, %d) = %v, %v, want %v", s, index, got, ok, want)
					}
					index++
				}
			}
		}
	}
}

// P2.3
func TestStep(t *testing.T) {
	eachPlace(func(p api.Place, may bool) {
		for dir, step := range steps {
			want := plus(p, step)
			ok := may && inWorld(want)
			if !ok {
				want = api.Place{}
			}
			if got, is := Step(p, dir); got != want || is != ok {
				t.Errorf("Step(%v, %d) = %v, %v, want %v, %v", p, dir, got, is, want, ok)
			}
		}
		for _, dir := range []int{math.MinInt, -1, 6, 7, math.MaxInt} {
			if got, ok := Step(p, dir); got != (api.Place{}) || ok {
				t.Errorf("Step(%v, %d) = %v, %v, want none", p, dir, got, ok)
			}
		}
	})
}

func inWorld(p api.Place) bool {
	return -1048576 <= p.X && p.X <= 1048575 && 0 <= p.Y && p.Y <= 63 && -1048576 <= p.Z && p.Z <= 1048575
}

// P2.3: what is no place has no side, though a place lies next to it.
func TestStepIn(t *testing.T) {
	for _, x := range []struct {
		p   api.Place
		dir int
	}{
		{at(-1048577, 5, 5), 0}, {at(1048576, 5, 5), 1}, {at(5, 5, -1048577), 2},
		{at(5, 5, 1048576), 3}, {at(5, -1, 5), 4}, {at(5, 64, 5), 5},
	} {
		if got, ok := Step(x.p, x.dir); got != (api.Place{}) || ok {
			t.Errorf("Step(%v, %d) = %v, %v, want none", x.p, x.dir, got, ok)
		}
	}
}

// unlike are numbers in order, of which no two may be taken from one another without care.
var unlike = []int{math.MinInt, -1048577, -1, 0, 1, 64, math.MaxInt}

// ordered are all places of unlike numbers, in order: by X, then Z, then Y.
func ordered() []api.Place {
	var l []api.Place
	for _, x := range unlike {
		for _, z := range unlike {
			for _, y := range unlike {
				l = append(l, at(x, y, z))
			}
		}
	}
	return l
}

// P2.4
func TestCmp(t *testing.T) {
	l := ordered()
	for i, a := range l {
		for j, b := range l {
			want := 0
			if i < j {
				want = -1
			}
			if i > j {
				want = 1
			}
			if got := Cmp(a, b); got != want {
				t.Errorf("Cmp(%v, %v) = %d, want %d", a, b, got, want)
			}
			if got := CmpSpot(api.Spot(a), api.Spot(b)); got != want {
				t.Errorf("CmpSpot(%v, %v) = %d, want %d", a, b, got, want)
			}
		}
	}
}

// P2.4
func TestFar(t *testing.T) {
	for _, x := range []struct {
		a, b api.Place
		far  int
	}{
		{at(0, 0, 0), at(0, 0, 0), 0},
		{at(0, 0, 0), at(1, 0, 0), 1},
		{at(0, 0, 0), at(1, 1, 1), 3},
		{at(-5, 60, 7), at(5, 3, -7), 81},
		{at(-1048576, 0, 0), at(1048575, 0, 0), 2097151},
		{at(0, 0, -1048576), at(0, 0, 1048575), 2097151},
		{at(0, 0, 0), at(0, 63, 0), 63},
		{at(-1048576, 63, 1048575), at(1048575, 0, -1048576), 4194365},
	} {
		far(t, x.a, x.b, x.far, true)
		far(t, x.b, x.a, x.far, true)
	}
	for _, p := range noPlaces {
		far(t, p, at(0, 0, 0), 0, false)
		far(t, at(0, 0, 0), p, 0, false)
		far(t, p, p, 0, false)
	}
}

func far(t *testing.T, a, b api.Place, want int, may bool) {
	t.Helper()
	if got, ok := Far(a, b); got != want || ok != may {
		t.Errorf("Far(%v, %v) = %d, %v, want %d, %v", a, b, got, ok, want, may)
	}
}

// P2.4: Far is what walking from side to side takes, also along the world's edges.
func TestFarWalked(t *testing.T) {
	for _, from := range []api.Place{at(0, 20, 0), at(-1048576, 0, 1048575), at(1048575, 63, -1048576), at(-1, 1, 16)} {
		for p, want := range walked(from, 6) {
			far(t, from, p, want, true)
		}
	}
}

// walked tells how many steps it takes at least to each of the places that so many steps reach.
func walked(from api.Place, most int) map[api.Place]int {
	met := map[api.Place]int{from: 0}
	edge := []api.Place{from}
	for n := 1; n <= most; n++ {
		var next []api.Place
		for _, p := range edge {
			for _, step := range steps {
				q := plus(p, step)
				if _, is := met[q]; !is && inWorld(q) {
					met[q] = n
					next = append(next, q)
				}
			}
		}
		edge = next
	}
	return met
}

// corners goes through the ways in which two places can be a box's ends: four, there and back.
func corners(low, high api.Place, do func(a, b api.Place)) {
	for turn := range 8 {
		a, b := low, high
		if turn&1 != 0 {
			a.X, b.X = b.X, a.X
		}
		if turn&2 != 0 {
			a.Y, b.Y = b.Y, a.Y
		}
		if turn&4 != 0 {
			a.Z, b.Z = b.Z, a.Z
		}
		do(a, b)
	}
}

// P2.5: boxes of all sizes at and beyond both limits, whichever of their corners are handed in.
func TestBox(t *testing.T) {
	for _, low := range []api.Place{at(0, 0, 0), at(-9, 46, -3), at(-1048576, 0, -1048576), at(1048559, 47, 1048559)} {
		for size := range 17 * 17 * 17 {
			x, y, z := size%17+1, size/17%17+1, size/289+1
			high := plus(low, at(x-1, y-1, z-1))
			corners(low, high, func(a, b api.Place) {
				if max(x, y, z) > 16 || x*y*z > 512 {
					box(t, a, b, api.Place{}, api.Place{}, 0, api.ErrLong)
				} else {
					box(t, a, b, low, high, x*y*z, api.OK)
				}
			})
		}
	}
}

func box(t *testing.T, a, b, low, high api.Place, n int, e api.Errno) {
	t.Helper()
	gotLow, gotHigh, gotN, gotE := Box(a, b)
	if gotLow != low || gotHigh != high || gotN != n || gotE != e {
		t.Errorf("Box(%v, %v) = %v, %v, %d, %d, want %v, %v, %d, %d", a, b, gotLow, gotHigh, gotN, gotE, low, high, n, e)
	}
}

// P2.5: at each limit, and the least beyond it that sides of at most 16 can have.
func TestBoxLimits(t *testing.T) {
	for _, x := range []struct {
		size api.Place
		n    int
		e    api.Errno
	}{
		{at(1, 1, 1), 1, api.OK},
		{at(16, 1, 1), 16, api.OK}, {at(1, 16, 1), 16, api.OK}, {at(1, 1, 16), 16, api.OK},
		{at(17, 1, 1), 0, api.ErrLong}, {at(1, 17, 1), 0, api.ErrLong}, {at(1, 1, 17), 0, api.ErrLong},
		{at(8, 8, 8), 512, api.OK}, {at(16, 16, 2), 512, api.OK}, {at(2, 16, 16), 512, api.OK},
		{at(13, 8, 5), 0, api.ErrLong}, {at(5, 13, 8), 0, api.ErrLong}, {at(16, 16, 16), 0, api.ErrLong},
	} {
		var low, high api.Place
		if x.e == api.OK {
			high = plus(x.size, at(-1, -1, -1))
		}
		box(t, api.Place{}, plus(x.size, at(-1, -1, -1)), low, high, x.n, x.e)
	}
	box(t, at(-1048576, 0, -1048576), at(1048575, 63, 1048575), api.Place{}, api.Place{}, 0, api.ErrLong)
}

// P2.5: what is no place goes ahead of what is too long.
func TestBoxOfNoPlace(t *testing.T) {
	for _, p := range noPlaces {
		for _, q := range []api.Place{at(0, 0, 0), at(-500, 30, 500), p, plus(p, at(1, 1, 1))} {
			box(t, p, q, api.Place{}, api.Place{}, 0, api.ErrPlace)
			box(t, q, p, api.Place{}, api.Place{}, 0, api.ErrPlace)
		}
	}
}

// rowOf is a box's places, by rising Y, then Z, then X.
func rowOf(low, high api.Place) []api.Place {
	var l []api.Place
	for y := low.Y; y <= high.Y; y++ {
		for z := low.Z; z <= high.Z; z++ {
			for x := low.X; x <= high.X; x++ {
				l = append(l, at(x, y, z))
			}
		}
	}
	return l
}

// boxes are the least and the greatest places of some boxes.
var boxes = [][2]api.Place{
	{at(0, 0, 0), at(0, 0, 0)},
	{at(-1, 5, -1), at(1, 7, 2)},
	{at(-1048576, 0, -1048576), at(-1048569, 7, -1048569)},
	{at(1048560, 62, 1048560), at(1048575, 63, 1048575)},
	{at(-8, 63, 3), at(7, 63, 3)},
	{at(4, 48, 3), at(4, 63, 3)},
	{at(4, 30, -9), at(4, 30, 6)},
}

// P2.5
func TestEach(t *testing.T) {
	for _, x := range boxes {
		want := rowOf(x[0], x[1])
		corners(x[0], x[1], func(a, b api.Place) {
			if got := slices.Collect(Each(a, b)); !slices.Equal(got, want) {
				t.Errorf("Each(%v, %v) = %v, want %v", a, b, got, want)
			}
		})
	}
}

// P2.5
func TestEachOfNoBox(t *testing.T) {
	for _, p := range noPlaces {
		none(t, Each(p, at(0, 0, 0)))
		none(t, Each(at(0, 0, 0), p))
		none(t, Each(p, p))
	}
	none(t, Each(at(0, 0, 0), at(16, 0, 0)))
	none(t, Each(at(0, 16, 0), at(0, 0, 0)))
	none(t, Each(at(0, 0, -8), at(0, 0, 8)))
	none(t, Each(at(0, 0, 0), at(12, 7, 4)))
}

func none(t *testing.T, row iter.Seq[api.Place]) {
	t.Helper()
	for p := range row {
		t.Errorf("a place of no box: %v", p)
		return // what is gone over where nothing should be may have no end
	}
}

// P2.5: left behind any of its places, it tells those up to there, asks no more, and begins anew the next time.
func TestEachLeft(t *testing.T) {
	for _, x := range boxes {
		want := rowOf(x[0], x[1])
		row := Each(x[0], x[1])
		for n := 1; n <= len(want); n++ {
			var got []api.Place
			row(func(p api.Place) bool {
				got = append(got, p)
				return len(got) < n
			})
			if !slices.Equal(got, want[:n]) {
				t.Errorf("Each(%v), left behind %d places: %v", x, n, got)
			}
		}
		for range 2 {
			if got := slices.Collect(row); !slices.Equal(got, want) {
				t.Errorf("Each(%v) once more = %v", x, got)
			}
		}
	}
}

// P2.5: gone through within itself.
func TestEachWithin(t *testing.T) {
	low, high := at(-1, 5, -1), at(1, 7, 2)
	want := rowOf(low, high)
	row := Each(low, high)
	var outer []api.Place
	for p := range row {
		outer = append(outer, p)
		if inner := slices.Collect(row); !slices.Equal(inner, want) {
			t.Errorf("within, at %v: %v", p, inner)
		}
	}
	if !slices.Equal(outer, want) {
		t.Errorf("without: %v", outer)
	}
}

// R1: a row that is handed nothing to tell its places to does nothing.
func TestEachToNobody(t *testing.T) {
	Each(at(0, 0, 0), at(1, 1, 1))(nil)
	Each(at(0, 64, 0), at(1, 1, 1))(nil)
}

// P2.6
func TestSpotAndIndexBack(t *testing.T) {
	eachPlace(func(p api.Place, may bool) {
		s, ok := Spot(p)
		i, is := Index(p)
		if back, there := Of(s, i); may && (back != p || !ok || !is || !there) {
			t.Errorf("Of(Spot(%v), Index) = %v, %v", p, back, there)
		}
	})
	for _, s := range []api.Spot{{}, {X: -65536, Y: 0, Z: -65536}, {X: 65535, Y: 3, Z: 65535}, {X: -1, Y: 2, Z: 7}} {
		for i := range 4096 {
			p, there := Of(s, i)
			spot, ok := Spot(p)
			index, is := Index(p)
			if spot != s || index != i || !there || !ok || !is {
				t.Errorf("Spot and Index of Of(%v, %d): %v, %d", s, i, spot, index)
			}
		}
	}
}

// P2.6
func TestStepBack(t *testing.T) {
	eachPlace(func(p api.Place, may bool) {
		for dir := range 6 {
			there, ok := Step(p, dir)
			if !ok {
				continue
			}
			if back, is := Step(there, dir^1); back != p || !is {
				t.Errorf("from %v by %d and by %d: %v, %v", p, dir, dir^1, back, is)
			}
		}
	})
}

// P2.6
func TestFarTogether(t *testing.T) {
	l := []api.Place{
		at(0, 0, 0), at(1, 0, 0), at(0, 1, 0), at(0, 0, 1), at(1, 1, 0), at(-1, 0, 1), at(15, 15, 15), at(16, 15, 15),
		at(-1048576, 0, -1048576), at(-1048576, 1, -1048576), at(1048575, 63, 1048575), at(1048575, 63, 1048574),
	}
	for _, a := range l {
		for _, b := range l {
			ab, _ := Far(a, b)
			ba, _ := Far(b, a)
			if (ab == 0) != (a == b) || (ab == 1) != isSide(a, b) || ab != ba {
				t.Errorf("Far(%v, %v) = %d, and back %d", a, b, ab, ba)
			}
			for _, c := range l {
				ac, _ := Far(a, c)
				cb, _ := Far(c, b)
				if ac+cb < ab {
					t.Errorf("from %v to %v: %d, and by %v %d", a, b, ab, c, ac+cb)
				}
			}
		}
	}
}

func isSide(a, b api.Place) bool {
	for dir := range 6 {
		if p, ok := Step(a, dir); ok && p == b {
			return true
		}
	}
	return false
}

// The chapter's examples.
func TestExamplesOfPlaces(t *testing.T) {
	for _, x := range []struct {
		p   api.Place
		may bool
	}{{at(0, 0, 0), true}, {at(-1048576, 63, 1048575), true}, {at(0, 64, 0), false}, {at(0, -1, 0), false}, {at(1048576, 0, 0), false}} {
		if got := May(x.p); got != x.may {
			t.Errorf("May(%v) = %v", x.p, got)
		}
	}
	if s, ok := Spot(at(-1, 17, 16)); s != (api.Spot{X: -1, Y: 1, Z: 1}) || !ok {
		t.Errorf("Spot(-1 17 16) = %v, %v", s, ok)
	}
	if i, ok := Index(at(-1, 17, 16)); i != 271 || !ok {
		t.Errorf("Index(-1 17 16) = %d, %v", i, ok)
	}
	for _, x := range []struct {
		s     api.Spot
		index int
		p     api.Place
		ok    bool
	}{{api.Spot{X: -1, Y: 1, Z: 1}, 271, at(-1, 17, 16), true}, {api.Spot{X: -1, Y: 1, Z: 1}, 4096, api.Place{}, false}, {api.Spot{Y: 4}, 0, api.Place{}, false}} {
		if p, ok := Of(x.s, x.index); p != x.p || ok != x.ok {
			t.Errorf("Of(%v, %d) = %v, %v", x.s, x.index, p, ok)
		}
	}
}

func TestExamplesOfSteps(t *testing.T) {
	for _, x := range []struct {
		from api.Place
		dir  int
		to   api.Place
		ok   bool
	}{{at(0, 0, 0), api.Up, at(0, 1, 0), true}, {at(0, 0, 0), api.Down, api.Place{}, false}, {at(0, 0, 0), 6, api.Place{}, false}, {at(-1048576, 5, 5), api.West, api.Place{}, false}} {
		if p, ok := Step(x.from, x.dir); p != x.to || ok != x.ok {
			t.Errorf("Step(%v, %d) = %v, %v", x.from, x.dir, p, ok)
		}
	}
	for _, x := range []struct {
		a, b api.Place
		cmp  int
	}{{at(1, 0, 0), at(0, 9, 9), 1}, {at(0, 9, 0), at(0, 0, 1), -1}, {at(0, 1, 0), at(0, 2, 0), -1}} {
		if got := Cmp(x.a, x.b); got != x.cmp {
			t.Errorf("Cmp(%v, %v) = %d", x.a, x.b, got)
		}
	}
	far(t, at(0, 0, 0), at(2, 3, -1), 6, true)
}

func TestExamplesOfBoxes(t *testing.T) {
	box(t, at(3, 5, 0), at(1, 5, 1), at(1, 5, 0), at(3, 5, 1), 6, api.OK)
	box(t, at(0, 0, 0), at(16, 0, 0), api.Place{}, api.Place{}, 0, api.ErrLong)
	box(t, at(0, 0, 0), at(7, 8, 7), api.Place{}, api.Place{}, 0, api.ErrLong)
	want := []api.Place{at(0, 0, 1), at(1, 0, 1), at(0, 1, 1), at(1, 1, 1)}
	if got := slices.Collect(Each(at(1, 0, 1), at(0, 1, 1))); !slices.Equal(got, want) {
		t.Errorf("Each(1 0 1, 0 1 1) = %v", got)
	}
}
