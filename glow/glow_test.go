package glow

import (
	"math"
	"math/rand/v2"
	"slices"
	"testing"

	"bedrock/api"
)

// The cells that boxes are made of, by their numbers in the document.
var (
	air     = api.Cell{Kind: 0}
	bedrock = api.Cell{Kind: 1}
	stone   = api.Cell{Kind: 2}
	glass   = api.Cell{Kind: 9}
	water   = api.Cell{Kind: 13, Level: 3}
	fire    = api.Cell{Kind: 14}
	plant   = api.Cell{Kind: 12, Level: 3}
)

func lit(sky, lamp uint8) api.Light { return api.Light{Sky: sky, Lamp: lamp} }

func torch(level uint8) api.Cell { return api.Cell{Kind: 11, Level: level} }

// torches are those of each level.
func torches() []api.Cell {
	var l []api.Cell
	for level := uint8(1); level <= 15; level++ {
		l = append(l, torch(level))
	}
	return l
}

// allLamps are the lamps of each level, Fire of both levels among them.
func allLamps() []api.Cell { return append(torches(), fire, api.Cell{Kind: 14, Level: 1}) }

// wrong are cells that may not be, those of kinds that are clear, or lamps, among them.
var wrong = []api.Cell{
	{Kind: 0, Level: 1}, {Kind: 0, Level: 255}, {Kind: 9, Level: 1}, {Kind: 11, Level: 0}, {Kind: 11, Level: 16}, {Kind: 11, Level: 255},
	{Kind: 12, Level: 4}, {Kind: 13, Level: 8}, {Kind: 14, Level: 2}, {Kind: 15}, {Kind: 15, Level: 5}, {Kind: 16, Level: 1}, {Kind: 255, Level: 255},
}

// clearLevels tells the least and the greatest level of a clear kind, by the document's table, and whether the kind is one.
func clearLevels(kind uint8) (least, most uint8, ok bool) {
	switch kind {
	case 0, 9:
		return 0, 0, true
	case 11:
		return 1, 15, true
	case 12:
		return 0, 3, true
	case 13:
		return 0, 7, true
	case 14:
		return 0, 1, true
	}
	return 0, 0, false
}

// isClear tells whether light goes through the cell: it may be, and its kind is clear.
func isClear(c api.Cell) bool {
	least, most, ok := clearLevels(c.Kind)
	return ok && least <= c.Level && c.Level <= most
}

// ownLamp is the cell's own lamp, by the document's words.
func ownLamp(c api.Cell) uint8 {
	switch {
	case isClear(c) && c.Kind == 11:
		return c.Level
	case isClear(c) && c.Kind == 14:
		return 10
	}
	return 0
}

func box(x, y, z int, cells ...api.Cell) api.Box { return api.Box{X: x, Y: y, Z: z, Cells: cells} }

// filled is a box of one cell again and again.
func filled(x, y, z int, c api.Cell) api.Box {
	return box(x, y, z, slices.Repeat([]api.Cell{c}, x*y*z)...)
}

// number is where in the box the cell at x, y, z stands: below 0, if there is none.
func number(b api.Box, x, y, z int) int {
	if x < 0 || x >= b.X || y < 0 || y >= b.Y || z < 0 || z >= b.Z {
		return -1
	}
	return (y*b.Z+z)*b.X + x
}

// places goes through the box, and tells of each cell its number and where it is.
func places(b api.Box, do func(i, x, y, z int)) {
	for y := range b.Y {
		for z := range b.Z {
			for x := range b.X {
				do(number(b, x, y, z), x, y, z)
			}
		}
	}
}

// beside are the numbers of the sides of the place at x, y, z, as far as they are in the box.
func beside(b api.Box, x, y, z int) []int {
	var l []int
	for _, d := range [][3]int{{1, 0, 0}, {-1, 0, 0}, {0, 0, 1}, {0, 0, -1}, {0, 1, 0}, {0, -1, 0}} {
		if i := number(b, x+d[0], y+d[1], z+d[2]); i >= 0 {
			l = append(l, i)
		}
	}
	return l
}

// toSky tells whether the cell and all above it in its column are clear.
func toSky(b api.Box, x, y, z int) bool {
	for ; y < b.Y; y++ {
		if !isClear(b.Cells[number(b, x, y, z)]) {
			return false
		}
	}
	return true
}

// asked is the light that the document asks of the cell at x, y, z where the others have these lights.
func asked(b api.Box, lights []api.Light, x, y, z int) api.Light {
	c := b.Cells[number(b, x, y, z)]
	if !isClear(c) {
		return api.Light{}
	}
	var brightest api.Light
	for _, i := range beside(b, x, y, z) {
		brightest.Sky = max(brightest.Sky, lights[i].Sky)
		brightest.Lamp = max(brightest.Lamp, lights[i].Lamp)
	}
	want := api.Light{Sky: max(brightest.Sky, 1) - 1, Lamp: max(ownLamp(c), max(brightest.Lamp, 1)-1)}
	if toSky(b, x, y, z) {
		want.Sky = 15
	}
	return want
}

// account is the light of the box from scratch: what is asked of each cell, again and again, until nothing changes.
func account(b api.Box) []api.Light {
	lights := make([]api.Light, len(b.Cells))
	for {
		next := make([]api.Light, len(b.Cells))
		places(b, func(i, x, y, z int) { next[i] = asked(b, lights, x, y, z) })
		if slices.Equal(next, lights) {
			return lights
		}
		lights = next
	}
}

// light is what Light answers, which must be OK, and a light for each cell.
func light(t *testing.T, b api.Box) []api.Light {
	t.Helper()
	got, e := Light(b)
	if e != api.OK || len(got) != len(b.Cells) {
		t.Fatalf("Light of a box of %d, %d, %d: %d lights, error %d", b.X, b.Y, b.Z, len(got), e)
	}
	return got
}

// shines tells what Light answered, where it is another thing.
func shines(t *testing.T, b api.Box, want []api.Light) {
	t.Helper()
	got := light(t, b)
	for i := range got {
		if got[i] != want[i] {
			t.Fatalf("a box of %d, %d, %d: the light of cell %d is %v, want %v; the cells are %v", b.X, b.Y, b.Z, i, got[i], want[i], b.Cells[:min(len(b.Cells), 200)])
		}
	}
}

// refuses tells what Light answered, where it is not that error and no lights.
func refuses(t *testing.T, b api.Box, want api.Errno) {
	t.Helper()
	if got, e := Light(b); e != want || len(got) != 0 {
		t.Errorf("Light of a box of %d, %d, %d with %d cells: %d lights, error %d, want error %d", b.X, b.Y, b.Z, len(b.Cells), len(got), e, want)
	}
}

// draw makes boxes that are the same in each run.
func draw(seed uint64) *rand.Rand { return rand.New(rand.NewPCG(seed, 10)) }

func one[T any](r *rand.Rand, l []T) T { return l[r.IntN(len(l))] }

// mixtures are what boxes are made of at random: a cell stands in a list as often as it is likely.
func mixtures() [][]api.Cell {
	few := slices.Concat(slices.Repeat([]api.Cell{air}, 40), slices.Repeat([]api.Cell{stone}, 30), torches())
	return [][]api.Cell{
		{air, stone},
		{air, air, air, stone},
		{air, stone, stone, stone},
		{air, stone, glass, water, torch(15), torch(1), fire},
		few,
		slices.Concat(few, []api.Cell{glass, water, fire, plant, bedrock}, allLamps()),
		slices.Concat(slices.Repeat([]api.Cell{air, glass, water, plant}, 10), wrong, allLamps()),
	}
}

// sizes are of boxes of one cell, columns, rows, flat and deep ones.
var sizes = [][3]int{
	{1, 1, 1}, {1, 20, 1}, {1, 2, 1}, {20, 1, 1}, {2, 1, 1}, {1, 1, 20}, {1, 1, 2}, {7, 1, 9}, {9, 1, 7}, {20, 2, 1}, {1, 2, 20}, {2, 20, 3},
	{2, 2, 2}, {3, 4, 5}, {5, 4, 3}, {4, 5, 3}, {6, 6, 6}, {1, 8, 9}, {9, 8, 1}, {18, 3, 18}, {16, 16, 16},
}

// random tells a box of that size, of the mixture's cells, beneath a roof of stone in one of three.
func random(r *rand.Rand, size [3]int, mixture []api.Cell) api.Box {
	b := filled(size[0], size[1], size[2], stone)
	roof := r.IntN(3) == 0
	places(b, func(i, x, y, z int) {
		if !roof || y < b.Y-1 || r.IntN(20) == 0 {
			b.Cells[i] = one(r, mixture)
		}
	})
	return b
}

// boxes are many of all sizes, of all mixtures.
func boxes(seed uint64, times int) []api.Box {
	r := draw(seed)
	var l []api.Box
	for _, mixture := range mixtures() {
		for _, size := range sizes {
			for range times {
				l = append(l, random(r, size, mixture))
			}
		}
	}
	return l
}

// P10.1: ErrArg, if X, Y or Z is not from 1 to 256, also where the others are wrong, or the box would be too long.
func TestNoLength(t *testing.T) {
	bad := []int{0, -1, -2, -256, 257, 258, 512, 1 << 18, 1<<18 + 1, 1 << 32, 1<<32 + 1, -1 << 32, math.MinInt, math.MinInt + 1, math.MaxInt}
	others := []int{1, 2, 256, 0, -1, 257, math.MinInt, math.MaxInt, 1 << 32}
	cells := slices.Repeat([]api.Cell{air}, 16)
	for axis := range 3 {
		for _, n := range bad {
			for _, second := range others {
				for _, third := range others {
					var size [3]int
					size[axis], size[(axis+1)%3], size[(axis+2)%3] = n, second, third
					for _, have := range []int{0, 1, 2, 16} {
						refuses(t, box(size[0], size[1], size[2], cells[:have]...), api.ErrArg)
					}
				}
			}
		}
	}
	refuses(t, filled(257, 1, 1, air), api.ErrArg)
	refuses(t, filled(1, 257, 1, air), api.ErrArg)
	refuses(t, filled(1, 1, 257, air), api.ErrArg)
	refuses(t, filled(512, 2, 256, air), api.ErrArg)
	refuses(t, box(-1, -1, 1, air), api.ErrArg)
	refuses(t, box(-2, 1, -2, air, air, air, air), api.ErrArg)
	refuses(t, box(0, 0, 0), api.ErrArg)
	refuses(t, api.Box{}, api.ErrArg)
}

// P10.1: ErrLong, if there are more than 2^18 cells together, however many the box has; just so many may be.
func TestTooLong(t *testing.T) {
	cells := slices.Repeat([]api.Cell{air}, 1<<18+1)
	for _, size := range [][3]int{{65, 37, 109}, {109, 65, 37}, {37, 109, 65}, {256, 256, 5}, {256, 5, 256}, {5, 256, 256}, {64, 64, 65}, {256, 256, 256}, {256, 256, 255}} {
		for _, have := range []int{0, 1, 2, 1<<18 - 1, 1 << 18, 1<<18 + 1} {
			refuses(t, box(size[0], size[1], size[2], cells[:have]...), api.ErrLong)
		}
	}
	refuses(t, filled(256, 256, 5, air), api.ErrLong)
	refuses(t, filled(64, 64, 65, air), api.ErrLong)
	refuses(t, api.Box{X: 256, Y: 256, Z: 256}, api.ErrLong)
}

// P10.1: ErrArg, if the box has a cell too few, one too many, none.
func TestNotSoManyCells(t *testing.T) {
	for _, size := range append(sizes, [3]int{256, 1, 1}, [3]int{1, 256, 1}, [3]int{1, 1, 256}, [3]int{256, 256, 4}, [3]int{64, 64, 64}) {
		n := size[0] * size[1] * size[2]
		cells := slices.Repeat([]api.Cell{air}, 2*n)
		for _, have := range []int{0, n - 1, n + 1, 2 * n} {
			refuses(t, box(size[0], size[1], size[2], cells[:have]...), api.ErrArg)
		}
		refuses(t, api.Box{X: size[0], Y: size[1], Z: size[2]}, api.ErrArg)
	}
}

// great are boxes at the limits: a side of 256, 1024 and 2^18 cells together.
var great = [][3]int{
	{256, 1, 1}, {1, 256, 1}, {1, 1, 256}, {256, 4, 1}, {1, 256, 4}, {4, 1, 256}, {256, 1, 4}, {4, 256, 1}, {1, 4, 256},
	{256, 256, 4}, {256, 4, 256}, {4, 256, 256}, {64, 64, 64}, {128, 256, 8}, {63, 64, 65},
}

// P10.1: boxes just within the limits have their light.
func TestGreatest(t *testing.T) {
	r := draw(1)
	for _, size := range great {
		for _, l := range []api.Light{{Sky: 15}, {}} {
			c := air
			if l.Sky == 0 {
				c = stone
			}
			b := filled(size[0], size[1], size[2], c)
			shines(t, b, slices.Repeat([]api.Light{l}, len(b.Cells)))
		}
		b := random(r, size, mixtures()[5])
		shines(t, b, account(b))
	}
}

// P10.1: a box of one cell, of each cell there is: those that may not be have no light, as Bedrock.
func TestOneCell(t *testing.T) {
	for n := range 1 << 16 {
		c := api.Cell{Kind: uint8(n >> 8), Level: uint8(n)}
		var want api.Light
		if isClear(c) {
			want = api.Light{Sky: 15, Lamp: ownLamp(c)}
		}
		shines(t, box(1, 1, 1, c), []api.Light{want})
	}
}

// P10.1: each cell there is, amidst lights: light goes through just those that are clear, and a cell that may not be is one with Bedrock.
func TestCellAmidst(t *testing.T) {
	for n := range 1 << 16 {
		c := api.Cell{Kind: uint8(n >> 8), Level: uint8(n)}
		b := box(3, 2, 1, torch(12), c, air, air, stone, air)
		up := box(1, 3, 1, air, c, air)
		if !isClear(c) {
			for _, x := range []api.Box{b, up} {
				same := x
				same.Cells = slices.Clone(x.Cells)
				same.Cells[1] = bedrock
				shines(t, x, light(t, same))
			}
		}
		shines(t, b, account(b))
		shines(t, up, account(up))
	}
}

// P10.1: all columns and rows of few cells, of cells of each sort.
func TestAllSmall(t *testing.T) {
	sorts := []api.Cell{air, stone, torch(15), torch(2), fire, water, {Kind: 11}}
	for _, size := range [][3]int{{1, 4, 1}, {4, 1, 1}, {1, 1, 4}, {2, 2, 1}, {1, 2, 2}, {2, 1, 2}} {
		for n := range 7 * 7 * 7 * 7 {
			b := box(size[0], size[1], size[2], sorts[n%7], sorts[n/7%7], sorts[n/49%7], sorts[n/343])
			shines(t, b, account(b))
		}
	}
}

// P10.1: many boxes, held against the account.
func TestBoxes(t *testing.T) {
	for _, b := range boxes(2, 12) {
		shines(t, b, account(b))
	}
}

// P10.1: what is asked of each cell holds of what is answered, in small boxes and great ones.
func TestAsked(t *testing.T) {
	r := draw(3)
	all := boxes(4, 6)
	for _, mixture := range mixtures() {
		all = append(all, random(r, [3]int{30, 20, 40}, mixture), random(r, [3]int{256, 3, 20}, mixture), random(r, one(r, great), mixture))
	}
	for _, b := range all {
		got := light(t, b)
		places(b, func(i, x, y, z int) {
			if want := asked(b, got, x, y, z); got[i] != want {
				t.Fatalf("a box of %d, %d, %d: the light at %d, %d, %d is %v, its sides ask for %v", b.X, b.Y, b.Z, x, y, z, got[i], want)
			}
		})
	}
}

// P10.1: light goes round corners along a winding way, to its last step and not one further, by sky and by lamp.
func TestWinding(t *testing.T) {
	b := filled(9, 3, 9, stone)
	var way []int
	x, z := 0, 0
	for turn := range 4 {
		for range 9 {
			way = append(way, number(b, x, 1, z))
			x += 1 - 2*(turn%2)
		}
		x -= 1 - 2*(turn%2)
		way = append(way, number(b, x, 1, z+1))
		z += 2
	}
	for _, i := range way {
		b.Cells[i] = air
	}
	b.Cells[number(b, 0, 2, 0)] = air
	b.Cells[way[0]] = torch(15)
	got := light(t, b)
	for step, i := range way {
		want := api.Light{Sky: uint8(max(15-step, 0)), Lamp: uint8(max(15-step, 0))}
		if got[i] != want {
			t.Errorf("step %d of the way has %v, want %v", step, got[i], want)
		}
	}
	shines(t, b, account(b))
}

// P10.1: what stands beside the box, and below, lets nothing in, and what leaves a row at one end does not come in at another's beginning.
func TestNothingBeside(t *testing.T) {
	for _, size := range [][3]int{{4, 2, 4}, {3, 2, 5}, {2, 3, 2}, {1, 2, 3}} {
		dark := filled(size[0], size[1], size[2], air)
		places(dark, func(i, x, y, z int) {
			if y == dark.Y-1 {
				dark.Cells[i] = stone
			}
		})
		shines(t, dark, make([]api.Light, len(dark.Cells)))
		for i := range dark.Cells {
			for _, c := range []api.Cell{torch(1), torch(2), torch(3), torch(15), fire} {
				b := dark
				b.Cells = slices.Clone(dark.Cells)
				b.Cells[i] = c
				shines(t, b, account(b))
			}
		}
	}
}

// P10.2: two clear cells side by side are unlike by at most 1, sky and lamp each.
func TestUnlikeByOne(t *testing.T) {
	apart := func(a, b uint8) uint8 { return max(a, b) - min(a, b) }
	for _, b := range boxes(5, 6) {
		got := light(t, b)
		places(b, func(i, x, y, z int) {
			for _, j := range beside(b, x, y, z) {
				clear := isClear(b.Cells[i]) && isClear(b.Cells[j])
				if clear && (apart(got[i].Sky, got[j].Sky) > 1 || apart(got[i].Lamp, got[j].Lamp) > 1) {
					t.Fatalf("side by side, at %d, %d, %d, are %v and %v", x, y, z, got[i], got[j])
				}
			}
		})
	}
}

func far(a, b int) int { return max(a, b) - min(a, b) }

// P10.2: in a box of Air with one torch each cell's Lamp is the torch's level, less the steps from there to it.
func TestOneTorch(t *testing.T) {
	r := draw(6)
	for _, size := range append(sizes, [3]int{40, 1, 1}, [3]int{1, 40, 1}, [3]int{1, 1, 40}, [3]int{33, 33, 33}) {
		for _, c := range allLamps() {
			b := filled(size[0], size[1], size[2], air)
			tx, ty, tz := r.IntN(b.X), r.IntN(b.Y), r.IntN(b.Z)
			b.Cells[number(b, tx, ty, tz)] = c
			got := light(t, b)
			places(b, func(i, x, y, z int) {
				steps := far(x, tx) + far(y, ty) + far(z, tz)
				want := api.Light{Sky: 15, Lamp: uint8(max(int(ownLamp(c))-steps, 0))}
				if got[i] != want {
					t.Fatalf("%v at %d, %d, %d lights %d, %d, %d by %v, want %v", c, tx, ty, tz, x, y, z, got[i], want)
				}
			})
		}
	}
}

// rises tells where the second lights are darker than the first, in sky or lamp.
func rises(t *testing.T, what string, darker, brighter []api.Light) {
	t.Helper()
	for i := range darker {
		if darker[i].Sky > brighter[i].Sky || darker[i].Lamp > brighter[i].Lamp {
			t.Fatalf("%s: cell %d has %v, and %v where it ought not to be darker", what, i, darker[i], brighter[i])
		}
	}
}

// changed is the box with one other cell.
func changed(b api.Box, i int, c api.Cell) api.Box {
	b.Cells = slices.Clone(b.Cells)
	b.Cells[i] = c
	return b
}

// P10.2: a cell that becomes opaque makes none brighter; a lamp more makes none darker.
func TestOneCellMore(t *testing.T) {
	r := draw(7)
	for _, b := range boxes(8, 6) {
		i := r.IntN(len(b.Cells))
		got := light(t, b)
		for _, c := range []api.Cell{stone, bedrock, one(r, wrong), {Kind: 10}, {Kind: 6}} {
			rises(t, "opaque", light(t, changed(b, i, c)), got)
		}
		if ownLamp(b.Cells[i]) == 0 {
			rises(t, "a lamp more", got, light(t, changed(b, i, one(r, allLamps()))))
		}
	}
}

// turned is a box, or the light of its cells, with each cell where it comes to by the turn.
func turned[T any](b api.Box, cells []T, to func(x, y, z int) int) []T {
	l := make([]T, len(cells))
	places(b, func(i, x, y, z int) { l[to(x, y, z)] = cells[i] })
	return l
}

// P10.2: a box that is turned about, east for west or by a quarter, has its light turned about.
func TestTurned(t *testing.T) {
	for _, b := range boxes(9, 6) {
		got := light(t, b)
		about := api.Box{X: b.X, Y: b.Y, Z: b.Z}
		mirror := func(x, y, z int) int { return number(about, b.X-1-x, y, z) }
		about.Cells = turned(b, b.Cells, mirror)
		shines(t, about, turned(b, got, mirror))

		round := api.Box{X: b.Z, Y: b.Y, Z: b.X}
		quarter := func(x, y, z int) int { return number(round, b.Z-1-z, y, x) }
		round.Cells = turned(b, b.Cells, quarter)
		shines(t, round, turned(b, got, quarter))
	}
}

// R4: the cells that are handed in stay as they are, and so does what stands behind them.
func TestHandedIn(t *testing.T) {
	for _, b := range boxes(11, 2) {
		room := append(slices.Clone(b.Cells), torch(7), api.Cell{Kind: 99, Level: 99}, stone)
		before := slices.Clone(room)
		b.Cells = room[:len(b.Cells)]
		light(t, b)
		refuses(t, box(b.X, b.Y, b.Z, room...), api.ErrArg)
		if !slices.Equal(room, before) {
			t.Fatalf("a box of %d, %d, %d: its cells are changed", b.X, b.Y, b.Z)
		}
	}
}

// R4: what is answered is new memory: a change of one answer, or of the cells, does not change another one.
func TestNewMemory(t *testing.T) {
	for _, b := range boxes(12, 2) {
		want := account(b)
		first, second := light(t, b), light(t, b)
		for i := range first {
			first[i] = api.Light{Sky: 77, Lamp: 88}
		}
		_ = append(first[:0], first[:cap(first)]...)
		third := light(t, b)
		for i := range b.Cells {
			b.Cells[i] = torch(9)
		}
		if !slices.Equal(second, want) || !slices.Equal(third, want) {
			t.Fatalf("a box of %d, %d, %d: a change of one answer changed another one", b.X, b.Y, b.Z)
		}
	}
}

// R6: what is answered hangs on the box alone, not on what was asked ahead of it.
func TestAgain(t *testing.T) {
	all := boxes(13, 1)
	var firsts [][]api.Light
	for _, b := range all {
		firsts = append(firsts, light(t, b))
	}
	for i := range all {
		j := len(all) - 1 - i
		refuses(t, box(1, 1, 1), api.ErrArg)
		shines(t, all[j], firsts[j])
	}
}

// The chapter's examples.
func TestExamples(t *testing.T) {
	shines(t, box(1, 3, 1, air, air, air), []api.Light{lit(15, 0), lit(15, 0), lit(15, 0)})
	shines(t, box(1, 3, 1, air, stone, air), []api.Light{lit(0, 0), lit(0, 0), lit(15, 0)})
	shines(t, box(3, 2, 1, air, air, stone, stone, air, air), []api.Light{lit(14, 0), lit(15, 0), lit(0, 0), lit(0, 0), lit(15, 0), lit(15, 0)})
	shines(t, box(4, 2, 1, torch(3), air, air, air, stone, stone, stone, stone), []api.Light{lit(0, 3), lit(0, 2), lit(0, 1), lit(0, 0), lit(0, 0), lit(0, 0), lit(0, 0), lit(0, 0)})
	refuses(t, box(0, 1, 1), api.ErrArg)
	refuses(t, box(1, 1, 1), api.ErrArg)
	refuses(t, box(256, 256, 5), api.ErrLong)
}
