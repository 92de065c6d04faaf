package burn

import (
	"math"
	"math/rand/v2"
	"slices"
	"testing"

	"bedrock/api"
)

// The cells that places are made of, by their numbers in the document.
var (
	air     = api.Cell{Kind: 0}
	bedrock = api.Cell{Kind: 1}
	stone   = api.Cell{Kind: 2}
	soil    = api.Cell{Kind: 3}
	sand    = api.Cell{Kind: 4}
	gravel  = api.Cell{Kind: 5}
	wood    = api.Cell{Kind: 6}
	leaves  = api.Cell{Kind: 7}
	ash     = api.Cell{Kind: 8}
	glass   = api.Cell{Kind: 9}
	mover   = api.Cell{Kind: 10}
)

func torch(level uint8) api.Cell { return api.Cell{Kind: 11, Level: level} }

func plant(level uint8) api.Cell { return api.Cell{Kind: 12, Level: level} }

func water(level uint8) api.Cell { return api.Cell{Kind: 13, Level: level} }

func fire(level uint8) api.Cell { return api.Cell{Kind: 14, Level: level} }

// fires are Fire of each level.
var fires = []api.Cell{fire(0), fire(1)}

// plants are Plant of each level.
var plants = []api.Cell{plant(0), plant(1), plant(2), plant(3)}

// waters are Water of each level.
var waters = []api.Cell{water(0), water(1), water(2), water(3), water(4), water(5), water(6), water(7)}

// burning are the cells that burn.
var burning = append([]api.Cell{wood, leaves}, plants...)

// idle are cells that may be, and neither burn nor are Water.
var idle = []api.Cell{air, bedrock, stone, soil, sand, gravel, ash, glass, mover, torch(1), torch(7), torch(15), fire(0), fire(1)}

// wrong are cells that may not be: of each kind of the table, of none.
var wrong = []api.Cell{
	{Kind: 0, Level: 1}, {Kind: 0, Level: 255}, {Kind: 1, Level: 1}, {Kind: 2, Level: 1}, {Kind: 3, Level: 1}, {Kind: 3, Level: 255}, {Kind: 4, Level: 1},
	{Kind: 5, Level: 2}, {Kind: 6, Level: 1}, {Kind: 6, Level: 255}, {Kind: 7, Level: 1}, {Kind: 8, Level: 128}, {Kind: 9, Level: 1}, {Kind: 10, Level: 3},
	{Kind: 11}, {Kind: 11, Level: 16}, {Kind: 12, Level: 4}, {Kind: 12, Level: 255}, {Kind: 13, Level: 8}, {Kind: 13, Level: 255}, {Kind: 14, Level: 2},
	{Kind: 14, Level: 255}, {Kind: 15}, {Kind: 15, Level: 1}, {Kind: 19}, {Kind: 30, Level: 1}, {Kind: 134}, {Kind: 140, Level: 3}, {Kind: 255, Level: 255},
}

// someCells are all of these.
func someCells() []api.Cell { return slices.Concat(burning, waters, idle, wrong) }

// isWet tells whether the cell is Water that may be.
func isWet(c api.Cell) bool { return c.Kind == 13 && c.Level <= 7 }

// isFuel tells whether the cell burns, by the document's table.
func isFuel(c api.Cell) bool { return c == wood || c == leaves || c.Kind == 12 && c.Level <= 3 }

// isMoved tells whether the cell is movable, by the document's table.
func isMoved(c api.Cell) bool { return c.Kind >= 2 && c.Kind <= 9 && c.Level == 0 }

// end is the deed by which fire becomes what is left of it, by the document's words.
func end(level uint8) api.Deed {
	if level == 1 {
		return to(0, ash, 1, 0)
	}
	return to(0, air, 0, 0)
}

// catch is the deed by which the side in the direction is set on fire, by the document's words.
func catch(dir int, c api.Cell) api.Deed {
	switch c {
	case wood:
		return to(1+dir, fire(1), -1, 3)
	case leaves:
		return to(1+dir, fire(0), -1, 3)
	}
	return to(1+dir, fire(0), 0, 3)
}

// to is a deed of one change.
func to(dir int, c api.Cell, delta, again int) api.Deed {
	return api.Deed{Changes: []api.Change{{Dir: dir, Cell: c}}, Again: again, Delta: delta}
}

// waits is a deed of no change.
func waits(again int) api.Deed { return api.Deed{Again: again} }

// burnt is what Fire answers, by the document's words.
func burnt(n api.Near) api.Deed {
	if n.Self.Kind != 14 || n.Self.Level > 1 {
		return api.Deed{}
	}
	fuel := 0
	for _, c := range n.Sides {
		if isWet(c) {
			return end(n.Self.Level)
		}
		if isFuel(c) {
			fuel++
		}
	}
	dir, turn := n.Draw%6, (n.Draw/6)%4
	if isFuel(n.Sides[dir]) {
		return catch(int(dir), n.Sides[dir])
	}
	if fuel == 0 || turn == 0 {
		return end(n.Self.Level)
	}
	return waits(3)
}

// grown is what Plant answers, by the document's words.
func grown(n api.Near) api.Deed {
	if n.Self.Kind != 12 || n.Self.Level > 3 {
		return api.Deed{}
	}
	if n.Sides[5] != soil {
		return to(0, air, 0, 0)
	}
	if n.Light <= 8 || n.Draw&3 > 0 {
		return waits(5)
	}
	if n.Self.Level == 3 {
		return to(0, leaves, 1, 0)
	}
	return to(0, plant(n.Self.Level+1), 0, 0)
}

// same tells whether both deeds tell the same; an empty list is as nil.
func same(a, b api.Deed) bool {
	return slices.Equal(a.Changes, b.Changes) && a.Again == b.Again && a.Delta == b.Delta
}

// does tells what was answered, where it is another thing. (Helper takes longer than all else here: it is called just where something is told.)
func does(t *testing.T, name string, n api.Near, got, want api.Deed) {
	if !same(got, want) {
		t.Helper()
		t.Fatalf("%s(%v) = %v, want %v", name, n, got, want)
	}
}

// fireDoes tells what Fire answered, where it is another thing.
func fireDoes(t *testing.T, n api.Near, want api.Deed) { does(t, "Fire", n, Fire(n), want) }

// plantDoes tells what Plant answered, where it is another thing.
func plantDoes(t *testing.T, n api.Near, want api.Deed) { does(t, "Plant", n, Plant(n), want) }

// both holds Fire and Plant against the document's words.
func both(t *testing.T, n api.Near) {
	fireDoes(t, n, burnt(n))
	plantDoes(t, n, grown(n))
}

// positions is how many cells are near.
const positions = 11

// put is n with another cell: 0 itself, 1 to 6 the sides, 7 to 10 the unders.
func put(n api.Near, position int, c api.Cell) api.Near {
	switch {
	case position == 0:
		n.Self = c
	case position <= 6:
		n.Sides[position-1] = c
	default:
		n.Unders[position-7] = c
	}
	return n
}

// eachCell goes through all cells that there are.
func eachCell(do func(c api.Cell)) {
	for kind := range 256 {
		for level := range 256 {
			do(api.Cell{Kind: uint8(kind), Level: uint8(level)})
		}
	}
}

// drawsFrom are 48 draws, the first being this: they have each remainder modulo 6, and with it each one of their sixth part modulo 4, twice.
func drawsFrom(first uint64) []uint64 {
	l := make([]uint64, 48)
	for i := range l {
		l[i] = first + uint64(i)
	}
	return l
}

// draws are small ones, such as lie near the greatest uint64, and such as lie where the numbers of fewer bits, or of a sign, end.
func draws() []uint64 {
	return slices.Concat(drawsFrom(0), drawsFrom(math.MaxUint64-47), drawsFrom(1<<32-24), drawsFrom(1<<63-24), []uint64{255, 256, 257, 65535, 65536, 1<<53 + 1})
}

// drawer makes nears that are the same in each run.
func drawer(seed uint64) *rand.Rand { return rand.New(rand.NewPCG(seed, 14)) }

func one[T any](r *rand.Rand, l []T) T { return l[r.IntN(len(l))] }

// anything is a near at random, of the list's cells.
func anything(r *rand.Rand, from []api.Cell) api.Near {
	n := api.Near{Light: uint8(r.IntN(20)), Draw: r.Uint64()}
	if r.IntN(2) == 0 {
		n.Draw = uint64(r.IntN(48))
	}
	for position := range positions {
		n = put(n, position, one(r, from))
	}
	return n
}

// mixtures are what nears are made of at random: some have no Water, some are mostly what burns, or what does not.
func mixtures() [][]api.Cell {
	return [][]api.Cell{
		someCells(),
		slices.Concat(burning, idle, wrong),
		slices.Concat(idle, idle, burning),
		slices.Concat(burning, burning, idle, waters[:2]),
		slices.Concat(idle, wrong),
	}
}

// manyNears goes through nears at random: of fire, of plants (mostly over Soil), and of any cell.
func manyNears(seed uint64, each int, do func(n api.Near)) {
	r := drawer(seed)
	for _, from := range mixtures() {
		for range each {
			n := anything(r, from)
			do(n)
			n.Self = one(r, fires)
			do(n)
			n.Self = one(r, plants)
			do(n)
			n.Sides[5] = soil
			do(n)
		}
	}
}

// bases are what is near in some cases that are told apart, of fire, of plants, of neither.
func bases() []api.Near {
	l := []api.Near{
		{},
		{Self: stone, Sides: [6]api.Cell{wood, wood, wood, wood, wood, soil}, Light: 15},
		{Self: fire(0)},
		{Self: fire(1), Sides: [6]api.Cell{stone, bedrock, sand, glass, torch(3), fire(1)}, Draw: 7},
		{Self: fire(0), Sides: [6]api.Cell{wood, leaves, plant(2), wood, leaves, plant(0)}, Draw: 3},
		{Self: fire(1), Sides: [6]api.Cell{wood, air, air, leaves, air, soil}, Draw: 7},
		{Self: fire(0), Sides: [6]api.Cell{air, plant(1), air, air, stone, wood}, Draw: 26},
		{Self: fire(1), Sides: [6]api.Cell{wood, leaves, water(3), plant(3), air, soil}, Draw: 1},
		{Self: fire(0), Sides: [6]api.Cell{4: water(0)}, Draw: math.MaxUint64},
	}
	for level := range uint8(4) {
		n := api.Near{Self: plant(level), Sides: [6]api.Cell{wood, water(1), fire(1), air, air, soil}, Light: 9, Draw: 4}
		dim, late, loose := n, n, n
		dim.Light, late.Draw, loose.Sides[5] = 8, math.MaxUint64, sand
		l = append(l, n, dim, late, loose)
	}
	return l
}

// P14.1, P14.2: all cells there are, at each position of each of the bases.
func TestEveryCell(t *testing.T) {
	for _, base := range bases() {
		for position := range positions {
			eachCell(func(c api.Cell) { both(t, put(base, position, c)) })
		}
	}
}

// P14.1, P14.2: some cells, at each two positions of each of the bases.
func TestEachTwo(t *testing.T) {
	for _, base := range bases() {
		for first := range positions {
			for second := range first {
				for _, c := range someCells() {
					for _, d := range someCells() {
						both(t, put(put(base, first, c), second, d))
					}
				}
			}
		}
	}
}

// P14.1, P14.2: all that is near being at random.
func TestManyNears(t *testing.T) {
	manyNears(1, 50000, func(n api.Near) { both(t, n) })
}

// P14.1, P14.2: each draw of some, and each light, in each of the bases.
func TestEachDrawAndLight(t *testing.T) {
	for _, n := range bases() {
		for _, draw := range draws() {
			for light := range 256 {
				n.Draw, n.Light = draw, uint8(light)
				both(t, n)
			}
		}
	}
}

// The chapter's examples.
func TestExamples(t *testing.T) {
	fireDoes(t, api.Near{Self: fire(0)}, to(0, air, 0, 0))
	fireDoes(t, api.Near{Self: fire(1)}, to(0, ash, 1, 0))
	n := api.Near{Self: fire(0), Sides: [6]api.Cell{wood}}
	fireDoes(t, n, to(1, fire(1), -1, 3))
	n.Sides[0], n.Draw = plant(2), 6
	fireDoes(t, n, to(1, fire(0), 0, 3))
	n = api.Near{Self: fire(1), Sides: [6]api.Cell{wood}, Draw: 1}
	fireDoes(t, n, to(0, ash, 1, 0))
	n.Draw = 7
	fireDoes(t, n, waits(3))
	n.Sides[4], n.Draw = water(0), 0
	fireDoes(t, n, to(0, ash, 1, 0))
	n = api.Near{Self: plant(0), Sides: [6]api.Cell{5: soil}, Light: 9, Draw: 4}
	plantDoes(t, n, to(0, plant(1), 0, 0))
	n.Light = 8
	plantDoes(t, n, waits(5))
	n.Light, n.Draw = 9, 5
	plantDoes(t, n, waits(5))
	n = api.Near{Self: plant(3), Sides: [6]api.Cell{5: soil}, Light: 15}
	plantDoes(t, n, to(0, leaves, 1, 0))
	n.Sides[5] = stone
	plantDoes(t, n, to(0, air, 0, 0))
}
