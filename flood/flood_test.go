package flood

import (
	"math"
	"slices"
	"strconv"
	"testing"

	"bedrock/api"
)

const (
	edge = 1 << 20
	mid  = 16
)

// overLand is the land about the place 0 0 0, wide enough that a change above or below that place changes no light beyond.
func overLand(t *testing.T) *world {
	return newWorld(t, at(-mid, 0, -mid), 2*mid+1, 2*mid+1, true, func(x, y, z int) api.Cell { return landCell(y) })
}

// filled is a world of one cell all over, with Bedrock beyond.
func filled(t *testing.T, wide, deep int, c api.Cell) *world {
	return newWorld(t, api.Place{}, wide, deep, false, func(x, y, z int) api.Cell { return c })
}

// is tells how many lights a change was to make other ones, where it is another number.
func is(t *testing.T, w *world, p api.Place, c api.Cell, want int) {
	t.Helper()
	if n := w.change(p, c); n != want {
		t.Errorf("%v at %v: %d lights, want %d", c, p, n, want)
	}
}

// shines tells where the light is another one.
func shines(t *testing.T, w *world, p api.Place, want api.Light) {
	t.Helper()
	if l := w.light(p); l != want {
		t.Errorf("the light of %v is %v, want %v", p, l, want)
	}
}

// The chapter's examples.
func TestExamples(t *testing.T) {
	p := at(0, 20, 0)
	w := overLand(t)
	is(t, w, p, torch(1), 1)
	shines(t, w, p, lit(15, 1))

	w = overLand(t)
	is(t, w, p, torch(2), 7)
	shines(t, w, p, lit(15, 2))
	for _, side := range []api.Place{at(1, 20, 0), at(-1, 20, 0), at(0, 21, 0), at(0, 19, 0), at(0, 20, 1), at(0, 20, -1)} {
		shines(t, w, side, lit(15, 1))
	}

	is(t, overLand(t), p, glass, 0)

	w = overLand(t)
	is(t, w, p, stone, 5)
	shines(t, w, p, lit(0, 0))
	for y := 16; y < 20; y++ {
		shines(t, w, at(0, y, 0), lit(14, 0))
	}

	w = overLand(t)
	is(t, w, at(0, 15, 0), air, 1)
	shines(t, w, at(0, 15, 0), lit(15, 0))
}

// P11.1: of no field nothing is done, wherever it is.
func TestNoField(t *testing.T) {
	for _, p := range append(noPlaces(), at(0, 0, 0), at(0, 20, 0), at(edge-1, 63, -edge)) {
		for _, old := range sorts() {
			if n := Change(nil, p, old); n != 0 {
				t.Errorf("of no field, at %v, %v: %d", p, old, n)
			}
		}
	}
}

// noPlaces have each number just beyond the world, or further on, one by one and all together.
func noPlaces() []api.Place {
	var l []api.Place
	wide := []int{-edge - 1, edge, -edge - 16, edge + 16, 1 << 32, -1 << 32, math.MinInt, math.MinInt + 1, math.MaxInt, math.MaxInt - 1}
	tall := []int{-1, 64, -2, 65, 1 << 32, -1 << 32, math.MinInt, math.MinInt + 1, math.MaxInt, math.MaxInt - 1}
	for i, n := range wide {
		for _, other := range []int{0, 5, -edge, edge - 1} {
			l = append(l, at(n, 20, other), at(other, 20, n), at(n, 0, other), at(other, 63, n))
			l = append(l, at(other, tall[i], 0), at(0, tall[i], other), at(n, tall[i], other), at(other, tall[i], n), at(n, tall[i], n))
		}
	}
	return l
}

// P11.1: of what is no place nothing is done: the field is neither asked nor told anything.
func TestNoPlace(t *testing.T) {
	w := overLand(t)
	for _, p := range noPlaces() {
		for _, old := range []api.Cell{air, stone, torch(15), wrong[0]} {
			if n := Change(w, p, old); n != 0 || len(w.asked) != 0 || len(w.told) != 0 {
				t.Fatalf("at %v, %v: %d; asked of %v, told %v", p, old, n, w.asked, w.told)
			}
		}
	}
}

// surroundings are small worlds of all sorts, each with places that lie in them in another way: under the sky, beneath a roof, in a cave, beside lamps, in the dark, high up.
var surroundings = []func(x, y, z int) api.Cell{
	func(x, y, z int) api.Cell { return landCell(y) },
	func(x, y, z int) api.Cell {
		if y == 40 && x != 2 {
			return stone
		}
		return landCell(y)
	},
	func(x, y, z int) api.Cell {
		if y < 30 && y > 10 && (x+z)%3 != 0 {
			return air
		}
		return stone
	},
	func(x, y, z int) api.Cell {
		switch {
		case x == 2 && y == 20:
			return torch(12)
		case z == 4 && y == 20:
			return fire
		case y == 26:
			return stone
		}
		return air
	},
	func(x, y, z int) api.Cell { return stone },
	func(x, y, z int) api.Cell {
		if y > 55 && (x+y+z)%2 == 0 {
			return stone
		}
		return air
	},
}

// P11.1: each sort of cell in the place of each, in surroundings of all sorts.
func TestEachInPlaceOfEach(t *testing.T) {
	for i, cells := range surroundings {
		t.Run(strconv.Itoa(i), func(t *testing.T) {
			t.Parallel()
			w := newWorld(t, at(-2, 0, -2), 5, 5, false, cells)
			sides := []api.Place{at(0, 20, 0), at(1, 16, 0), at(0, 63, 0), at(0, 0, 0), at(-1, 15, 2), at(0, 40, 0), at(-2, 25, -2)}
			k := 0
			for _, old := range sorts() {
				for _, c := range sorts() {
					p := sides[k%len(sides)]
					k++
					first := w.cell(p)
					w.change(p, old)
					w.change(p, c)
					w.change(p, first)
				}
			}
		})
	}
}

// P11.1: each of all the cells there are, in the place of air beside a torch: those that may not be count as Bedrock.
func TestEachCell(t *testing.T) {
	t.Parallel()
	w := filled(t, 3, 1, stone)
	p := at(1, 62, 0)
	for _, q := range []api.Place{at(0, 62, 0), p, at(2, 62, 0), at(1, 63, 0), at(1, 61, 0), at(2, 61, 0)} {
		w.change(q, air)
	}
	w.change(at(0, 62, 0), torch(7))
	for n := range 1 << 16 {
		w.asked, w.told = nil, nil
		c := api.Cell{Kind: uint8(n >> 8), Level: uint8(n)}
		w.put(p, c)
		want := lit(0, 0)
		if isClear(c) {
			want = lit(15, max(6, ownLamp(c)))
		}
		Change(w, p, air)
		shines(t, w, p, want)
		other := w.copied()
		other.put(p, bedrock)
		if n := Change(other, p, c); !isClear(c) && n != 0 {
			t.Errorf("Bedrock in the place of %v: %d", c, n)
		}
		w.put(p, air)
		Change(w, p, c)
		shines(t, w, p, lit(15, 6))
		if t.Failed() {
			t.Fatalf("of %v", c)
		}
	}
}

// mixtures are what worlds are made of at random, and changed to: a cell stands in a list as often as it is likely.
func mixtures() [][]api.Cell {
	few := slices.Concat(slices.Repeat([]api.Cell{air}, 40), slices.Repeat([]api.Cell{stone}, 30), torches())
	return [][]api.Cell{
		{air, stone},
		{air, air, air, air, air, stone},
		{air, stone, stone, stone},
		{air, stone, glass, water, torch(15), torch(1), fire},
		few,
		slices.Concat(few, sorts()),
		slices.Concat(slices.Repeat([]api.Cell{air, glass, water, plant}, 10), sorts()),
	}
}

// random is a world of the mixture: bare, above the land, or with a roof that has few holes.
func random(t *testing.T, seed uint64, least api.Place, wide, deep int, mixture []api.Cell) *world {
	r := draw(seed)
	sort, roof := r.IntN(4), 1+r.IntN(62)
	return newWorld(t, least, wide, deep, false, func(x, y, z int) api.Cell {
		switch {
		case sort == 1 && y > 20 && r.IntN(8) > 0, sort == 2 && y > roof:
			return air
		case sort > 1 && y == roof && r.IntN(20) > 0:
			return stone
		case sort == 3 && y > roof:
			return one(r, []api.Cell{air, air, air, stone})
		}
		return one(r, mixture)
	})
}

// walk makes so many changes, one behind the other, at places of a small part of the world as often as at others.
func walk(w *world, seed uint64, times int, mixture []api.Cell) {
	w.t.Helper()
	r := draw(seed)
	x, z := r.IntN(w.wide), r.IntN(w.deep)
	for range times {
		p := w.place(r.IntN(w.wide), r.IntN(high), r.IntN(w.deep))
		switch r.IntN(4) {
		case 0:
			p = w.place(x, r.IntN(high), z)
		case 1:
			p = w.place(x, one(r, []int{0, 1, 15, 16, 20, 47, 48, 49, 62, 63}), z)
		}
		c := one(r, mixture)
		if r.IntN(8) == 0 {
			c = one(r, sorts())
		}
		w.change(p, c)
	}
}

// P11.1: many changes, one behind another, in worlds of all sorts and sizes.
func TestWalks(t *testing.T) {
	t.Parallel()
	seed := uint64(0)
	for _, mixture := range mixtures() {
		for _, size := range [][2]int{{1, 1}, {2, 1}, {1, 3}, {3, 3}, {9, 1}, {1, 12}, {5, 7}, {8, 6}, {18, 17}} {
			seed++
			w := random(t, seed, at(int(seed)*100, 0, -int(seed)*33), size[0], size[1], mixture)
			walk(w, seed, 60, mixture)
		}
	}
}

// P11.1: at the world's borders and corners: what lies beyond is no place.
func TestBorders(t *testing.T) {
	t.Parallel()
	for i, least := range []api.Place{at(-edge, 0, -edge), at(edge-6, 0, -edge), at(-edge, 0, edge-6), at(edge-6, 0, edge-6), at(-edge, 0, 3), at(edge-6, 0, 3), at(3, 0, -edge), at(3, 0, edge-6)} {
		for k, mixture := range mixtures() {
			seed := uint64(1000 + 10*i + k)
			walk(random(t, seed, least, 6, 6, mixture), seed, 25, mixture)
		}
		w := newWorld(t, least, 6, 6, false, func(x, y, z int) api.Cell { return landCell(y) })
		for _, x := range []int{0, 5} {
			for _, z := range []int{0, 5} {
				for _, y := range []int{0, 1, 15, 16, 40, 62, 63} {
					for _, c := range []api.Cell{stone, torch(15), air, torch(3), fire, stone, landCell(y)} {
						w.change(w.place(x, y, z), c)
					}
				}
			}
		}
	}
}

// P11.1: in worlds wide enough that light comes to nothing in them on all sides, over the land, in caves and under roofs.
func TestWide(t *testing.T) {
	t.Parallel()
	r := draw(5)
	for i := range 8 {
		w := newWorld(t, at(-20, 0, -20), 41, 41, true, func(x, y, z int) api.Cell {
			if apart(x, 20) > 4 || apart(z, 20) > 4 {
				return landCell(y)
			}
			switch {
			case i%4 == 1 && y == 30:
				return stone
			case i%4 == 2 && y > 3 && y < 14 && r.IntN(3) > 0:
				return air
			case i%4 == 3 && y > 20 && r.IntN(4) == 0:
				return stone
			}
			return landCell(y)
		})
		for range 30 {
			p := at(r.IntN(9)-4, r.IntN(high), r.IntN(9)-4)
			if r.IntN(2) == 0 {
				p.Y = one(r, []int{14, 15, 16, 17, 29, 30, 31, 63})
			}
			w.change(p, one(r, []api.Cell{air, air, stone, stone, torch(15), torch(14), fire, glass, water}))
		}
	}
}

// octahedron tells how many places lie at most so many steps from one.
func octahedron(steps int) int {
	n := 0
	for y := -steps; y <= steps; y++ {
		left := steps - apart(y, 0)
		n += 2*left*(left+1) + 1
	}
	return n
}

// P11.1: a lamp of each level, in the midst of the air, comes and goes: it lights what is less steps away than its level.
func TestOneLamp(t *testing.T) {
	w := newWorld(t, at(-mid, 0, -mid), 2*mid+1, 2*mid+1, false, func(x, y, z int) api.Cell { return air })
	p := at(0, 30, 0)
	for level := uint8(1); level <= 15; level++ {
		is(t, w, p, torch(level), octahedron(int(level)-1))
		for steps := range 16 {
			want := lit(15, uint8(max(int(level)-steps, 0)))
			shines(t, w, at(steps, 30, 0), want)
			shines(t, w, at(0, 30-steps, 0), want)
			shines(t, w, at(-steps/2, 30, steps/2-steps), want)
		}
		is(t, w, p, air, octahedron(int(level)-1))
	}
	is(t, w, p, fire, octahedron(9))
	is(t, w, p, ember, 0)
	is(t, w, p, torch(10), 0)
	is(t, w, p, torch(11), octahedron(10))
	is(t, w, p, torch(4), octahedron(10))
	// The column below is lit by its sides now: what of it the lamp lights, too, is another one just once.
	is(t, w, p, stone, octahedron(3)+30-3)
	is(t, w, p, torch(15), octahedron(14)+30-14)
}

// P11.1: a lamp whose light others take over, in full or in part, and lamps whose light meets.
func TestLampsMeet(t *testing.T) {
	w := filled(t, 40, 1, stone)
	for x := range 40 {
		w.change(at(x, 9, 0), air)
	}
	is(t, w, at(5, 9, 0), torch(8), 13)
	is(t, w, at(15, 9, 0), torch(8), 12)
	shines(t, w, at(10, 9, 0), lit(0, 3))
	is(t, w, at(15, 9, 0), air, 12)
	shines(t, w, at(10, 9, 0), lit(0, 3))
	is(t, w, at(6, 9, 0), torch(7), 0)
	is(t, w, at(6, 9, 0), glass, 0)
	is(t, w, at(6, 9, 0), torch(8), 8)
	is(t, w, at(5, 9, 0), air, 6)
	shines(t, w, at(5, 9, 0), lit(0, 7))
	is(t, w, at(6, 9, 0), stone, 14)
	shines(t, w, at(5, 9, 0), lit(0, 0))
}

// P11.1: a lamp that goes leaves the lamp that stood in its light its own.
func TestLampInLight(t *testing.T) {
	w := filled(t, 20, 1, stone)
	for x := range 20 {
		w.change(at(x, 9, 0), air)
	}
	w.change(at(0, 9, 0), torch(15))
	is(t, w, at(5, 9, 0), torch(3), 0)
	is(t, w, at(7, 9, 0), torch(8), 0)
	is(t, w, at(9, 9, 0), fire, 11)
	is(t, w, at(0, 9, 0), air, 7)
	shines(t, w, at(0, 9, 0), lit(0, 1))
	is(t, w, at(9, 9, 0), air, 11)
	shines(t, w, at(0, 9, 0), lit(0, 1))
	shines(t, w, at(5, 9, 0), lit(0, 6))
	is(t, w, at(7, 9, 0), air, 15)
	shines(t, w, at(5, 9, 0), lit(0, 3))
}

// P11.1: a change by which no light becomes another one: 0, and nothing is told.
func TestNoOtherLight(t *testing.T) {
	w := overLand(t)
	for _, c := range []api.Cell{glass, water, plant, {Kind: 13}, air, air, glass, glass} {
		is(t, w, at(0, 16, 0), c, 0)
		is(t, w, at(0, 63, 0), c, 0)
		is(t, w, at(0, 30, 0), c, 0)
	}
	for _, c := range []api.Cell{stone, sand, bedrock, {Kind: 10}, {Kind: 77}, {Kind: 0, Level: 1}, {Kind: 11}, soil} {
		is(t, w, at(0, 15, 0), c, 0)
		is(t, w, at(0, 0, 0), c, 0)
	}
	w.change(at(3, 20, 0), torch(9))
	for _, c := range []api.Cell{torch(6), torch(1), torch(5), air, glass} {
		is(t, w, at(0, 20, 0), c, 0)
	}
	is(t, w, at(3, 20, 0), torch(9), 0)
	w = filled(t, 5, 5, air)
	is(t, w, at(2, 0, 2), glass, 0)
	w = filled(t, 5, 5, stone)
	is(t, w, at(2, 30, 2), air, 1-1)
	is(t, w, at(2, 30, 2), bedrock, 0)
}

// P11.1: a column that is opened and shut: its sky sources come and go all the way down, and what they light beside them.
func TestColumn(t *testing.T) {
	w := filled(t, 1, 1, air)
	for y := range high {
		is(t, w, at(0, y, 0), stone, y+1)
		is(t, w, at(0, y, 0), air, y+1)
	}
	is(t, w, at(0, 63, 0), stone, 64)
	is(t, w, at(0, 30, 0), stone, 0)
	is(t, w, at(0, 63, 0), air, 64-31)
	is(t, w, at(0, 20, 0), soil, 0)
	is(t, w, at(0, 30, 0), water, 31-21)
	is(t, w, at(0, 20, 0), air, 21)

	w = newWorld(t, at(-mid, 0, -mid), 2*mid+1, 2*mid+1, false, func(x, y, z int) api.Cell {
		if y == 63 {
			return stone
		}
		return air
	})
	// What is less than 15 level steps away is lit, at each of the 64 heights but the uppermost one, which is the roof.
	flat := 2*14*15 + 1
	is(t, w, at(0, 63, 0), air, 63*flat+1)
	for steps := range 16 {
		shines(t, w, at(steps, 0, 0), lit(uint8(15-steps), 0))
		shines(t, w, at(0, 62, -steps), lit(uint8(15-steps), 0))
	}
	is(t, w, at(0, 63, 0), bedrock, 63*flat+1)
	shines(t, w, at(0, 0, 0), lit(0, 0))
}

// P11.1: the cell that lies where the light of above cannot be asked for, as it is too far away, opens and shuts the column all the same.
func TestFarBelow(t *testing.T) {
	t.Parallel()
	for _, roof := range []int{-1, 17, 20, 30, 34, 35, 36, 37, 47, 48, 49, 62, 63} {
		w := newWorld(t, at(0, 0, 0), 3, 3, false, func(x, y, z int) api.Cell {
			if y == roof {
				return stone
			}
			return air
		})
		for _, y := range []int{0, 1, 5, 15, 16, 17, 20, 21, 31, 32, 33, 34, 46, 47, 48, 49, 50, 61, 62, 63} {
			for _, c := range []api.Cell{stone, air, torch(4), stone, fire, air} {
				w.change(at(1, y, 1), c)
				w.change(at(0, y, 2), c)
			}
		}
		if roof >= 0 {
			w.change(at(1, roof, 1), air)
			for _, y := range []int{0, 16, 32, 47, 48} {
				w.change(at(1, y, 1), stone)
				w.change(at(1, y, 1), air)
			}
			w.change(at(1, roof, 1), stone)
		}
	}
}

// P11.1: light of the sky and of lamps along a winding way, to its last step and not one further; a stone in the midst of it cuts off what lies behind.
func TestWinding(t *testing.T) {
	w := filled(t, 9, 9, stone)
	var way []api.Place
	x, z := 0, 0
	for turn := range 4 {
		for range 8 {
			way = append(way, at(x, 50, z))
			x += 1 - 2*(turn%2)
		}
		way = append(way, at(x, 50, z), at(x, 50, z+1))
		z += 2
	}
	for _, p := range way {
		w.change(p, air)
	}
	is(t, w, way[0], torch(15), 15)
	for y := 51; y < 63; y++ {
		w.change(at(0, y, 0), air)
	}
	is(t, w, at(0, 63, 0), air, 13+15)
	for step, p := range way {
		bright := uint8(max(15-step, 0))
		shines(t, w, p, lit(bright, bright))
	}
	is(t, w, way[14], stone, 1)
	is(t, w, way[5], sand, 9)
	is(t, w, way[5], air, 9)
	is(t, w, way[14], air, 1)
	is(t, w, way[14], torch(15), 7+14)
}

// P11.4: a change and the one back leave all lights as they were, and are as many; what becomes opaque makes no place brighter, what becomes clear none darker.
func TestBack(t *testing.T) {
	r := draw(6)
	seed := uint64(2000)
	for _, mixture := range mixtures() {
		for _, size := range [][2]int{{1, 1}, {4, 3}, {7, 7}} {
			seed++
			w := random(t, seed, at(-3, 0, -3), size[0], size[1], mixture)
			for range 60 {
				p := w.place(r.IntN(w.wide), r.IntN(high), r.IntN(w.deep))
				c := one(r, append(slices.Clone(mixture), sorts()...))
				before := slices.Clone(w.lights)
				old := w.put(p, c)
				there := Change(w, p, old)
				between := slices.Clone(w.lights)
				if isClear(old) && !isClear(c) {
					darker(t, between, before)
				}
				if !isClear(old) && isClear(c) {
					darker(t, before, between)
				}
				w.put(p, old)
				if back := Change(w, p, c); back != there || !slices.Equal(w.lights, before) {
					t.Fatalf("%v becomes %v at %v and back: %d lights, %d back", old, c, p, there, back)
				}
				w.put(p, c)
				Change(w, p, old)
			}
		}
	}
}

// darker tells where one of the first lights is brighter than that of the second ones.
func darker(t *testing.T, a, b []api.Light) {
	t.Helper()
	for i := range a {
		if a[i].Sky > b[i].Sky || a[i].Lamp > b[i].Lamp {
			t.Fatalf("%v where %v is the most there may be", a[i], b[i])
		}
	}
}

// R6: the same change of the same field is told in the same way, whatever was done between.
func TestAgain(t *testing.T) {
	r := draw(7)
	for i, mixture := range mixtures() {
		w := random(t, uint64(3000+i), api.Place{}, 6, 6, mixture)
		for range 20 {
			p, c := w.place(r.IntN(w.wide), r.IntN(high), r.IntN(w.deep)), one(r, mixture)
			a, b := w.copied(), w.copied()
			old := a.put(p, c)
			n := Change(a, p, old)
			w.change(p, one(r, mixture))
			w.change(w.place(0, 63, 0), one(r, mixture))
			b.put(p, c)
			if again := Change(b, p, old); again != n || !slices.Equal(a.told, b.told) {
				t.Fatalf("the same change at %v: %d and %d lights", p, n, again)
			}
		}
	}
}
