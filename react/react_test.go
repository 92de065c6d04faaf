package react

import (
	"math"
	"math/rand/v2"
	"slices"
	"testing"

	"bedrock/api"
)

// The cells that places are made of, by their numbers in the document.
var (
	air     = api.Cell{Kind: 0}
	bedrock = api.Cell{Kind: 1}
	stone   = api.Cell{Kind: 2}
	soil    = api.Cell{Kind: 3}
	sand    = api.Cell{Kind: 4}
	gravel  = api.Cell{Kind: 5}
	wood    = api.Cell{Kind: 6}
	leaves  = api.Cell{Kind: 7}
	ash     = api.Cell{Kind: 8}
	glass   = api.Cell{Kind: 9}
	mover   = api.Cell{Kind: 10}
)

func torch(level uint8) api.Cell { return api.Cell{Kind: 11, Level: level} }

func plant(level uint8) api.Cell { return api.Cell{Kind: 12, Level: level} }

func water(level uint8) api.Cell { return api.Cell{Kind: 13, Level: level} }

func fire(level uint8) api.Cell { return api.Cell{Kind: 14, Level: level} }

// each is the kind's cells of these levels.
func each(kind, least, most uint8) []api.Cell {
	var l []api.Cell
	for level := least; level <= most; level++ {
		l = append(l, api.Cell{Kind: kind, Level: level})
	}
	return l
}

var (
	falling = []api.Cell{sand, gravel, ash}
	torches = each(11, 1, 15)
	plants  = each(12, 0, 3)
	waters  = each(13, 0, 7)
	fires   = each(14, 0, 1)
)

// active are the cells that may be, and do something.
var active = slices.Concat(falling, plants, waters, fires)

// still are the cells that may be, and do nothing.
var still = slices.Concat([]api.Cell{air, bedrock, stone, soil, wood, leaves, glass, mover}, torches)

// wrong are cells that may not be: of each kind of the table, of none.
var wrong = []api.Cell{
	{Kind: 0, Level: 1}, {Kind: 0, Level: 255}, {Kind: 1, Level: 1}, {Kind: 2, Level: 1}, {Kind: 3, Level: 1}, {Kind: 4, Level: 1}, {Kind: 4, Level: 255},
	{Kind: 5, Level: 2}, {Kind: 6, Level: 1}, {Kind: 6, Level: 255}, {Kind: 7, Level: 1}, {Kind: 8, Level: 128}, {Kind: 9, Level: 1}, {Kind: 10, Level: 3},
	{Kind: 11}, {Kind: 11, Level: 16}, {Kind: 12, Level: 4}, {Kind: 12, Level: 255}, {Kind: 13, Level: 8}, {Kind: 13, Level: 255}, {Kind: 14, Level: 2},
	{Kind: 14, Level: 255}, {Kind: 15}, {Kind: 15, Level: 1}, {Kind: 20}, {Kind: 30, Level: 1}, {Kind: 132}, {Kind: 141, Level: 3}, {Kind: 255, Level: 255},
}

// someCells are all of these.
func someCells() []api.Cell { return slices.Concat(active, still, wrong) }

// set is the cells of a list, looked up fast.
type set [256][256]bool

func setOf(lists ...[]api.Cell) *set {
	s := new(set)
	for _, l := range lists {
		for _, c := range l {
			s[c.Kind][c.Level] = true
		}
	}
	return s
}

func (s *set) has(c api.Cell) bool { return s[c.Kind][c.Level] }

// What there is of each sort, by the document's table.
var (
	falls   = setOf(falling)
	moved   = setOf([]api.Cell{stone, soil, sand, gravel, wood, leaves, ash, glass})
	yields  = setOf([]api.Cell{air}, torches, plants, waters, fires)
	soaks   = setOf([]api.Cell{air}, torches, plants, fires)
	burns   = setOf([]api.Cell{wood, leaves}, plants)
	wet     = setOf(waters)
	afire   = setOf(fires)
	planted = setOf(plants)
	sound   = setOf(active, still)
)

// does is a deed of these changes.
func does(again, delta int, changes ...api.Change) api.Deed {
	return api.Deed{Changes: changes, Again: again, Delta: delta}
}

// to is a change.
func to(dir int, c api.Cell) api.Change { return api.Change{Dir: dir, Cell: c} }

// fallen is what comes of a cell that falls, by chapter 13's words.
func fallen(n api.Near) api.Deed {
	if !yields.has(n.Sides[5]) {
		return does(0, 0)
	}
	return does(0, 0, to(6, n.Self), to(0, air))
}

// nothing is more than each level of water: nothing is wanted.
const nothing = 8

// wanted is the level that the place wants, by chapter 12's words.
func wanted(n api.Near) uint8 {
	if wet.has(n.Sides[4]) {
		return 1
	}
	least := uint8(nothing - 1)
	for dir, side := range n.Sides[:4] {
		if under := n.Unders[dir]; wet.has(side) && !soaks.has(under) && !wet.has(under) {
			least = min(least, side.Level)
		}
	}
	return least + 1
}

// flowed is what comes of Water, by chapter 12's words.
func flowed(n api.Near) api.Deed {
	own, wants, below := n.Self.Level, wanted(n), n.Sides[5]
	if own > 0 && wants == nothing {
		return does(0, 0, to(0, air))
	}
	if own > 0 && wants != own {
		return does(0, 0, to(0, water(wants)))
	}
	if soaks.has(below) {
		return does(0, 0, to(6, water(1)))
	}
	d := does(0, 0)
	for dir := range 4 {
		if !wet.has(below) && own < 7 && soaks.has(n.Sides[dir]) {
			d.Changes = append(d.Changes, to(1+dir, water(own+1)))
		}
	}
	return d
}

// ended is what is left of fire, by chapter 14's words.
func ended(self api.Cell) api.Deed {
	if self == fire(1) {
		return does(0, 1, to(0, ash))
	}
	return does(0, 0, to(0, air))
}

// caught is the deed by which the side is set on fire, by chapter 14's words.
func caught(dir int, c api.Cell) api.Deed {
	switch c {
	case wood:
		return does(3, -1, to(1+dir, fire(1)))
	case leaves:
		return does(3, -1, to(1+dir, fire(0)))
	}
	return does(3, 0, to(1+dir, fire(0)))
}

// burnt is what comes of Fire, by chapter 14's words.
func burnt(n api.Near) api.Deed {
	dir := int(n.Draw % 6)
	switch {
	case slices.ContainsFunc(n.Sides[:], wet.has):
		return ended(n.Self)
	case burns.has(n.Sides[dir]):
		return caught(dir, n.Sides[dir])
	case !slices.ContainsFunc(n.Sides[:], burns.has) || n.Draw/6%4 == 0:
		return ended(n.Self)
	}
	return does(3, 0)
}

// grown is what comes of a Plant, by chapter 14's words.
func grown(n api.Near) api.Deed {
	switch {
	case n.Sides[5] != soil:
		return does(0, 0, to(0, air))
	case n.Light < 9 || n.Draw%4 != 0:
		return does(5, 0)
	case n.Self.Level == 3:
		return does(0, 1, to(0, leaves))
	}
	return does(0, 0, to(0, plant(n.Self.Level+1)))
}

// told is what Next answers, by the document's words.
func told(n api.Near) api.Deed {
	switch {
	case falls.has(n.Self):
		return fallen(n)
	case wet.has(n.Self):
		return flowed(n)
	case afire.has(n.Self):
		return burnt(n)
	case planted.has(n.Self):
		return grown(n)
	}
	return does(0, 0)
}

// same tells whether both deeds tell the same; an empty list is as nil.
func same(a, b api.Deed) bool {
	return slices.Equal(a.Changes, b.Changes) && a.Again == b.Again && a.Delta == b.Delta
}

// nextIs tells what Next answered, where it is another thing. (Helper takes longer than all else here: it is called just where something is told.)
func nextIs(t *testing.T, n api.Near, want api.Deed) {
	if d := Next(n); !same(d, want) {
		t.Helper()
		t.Fatalf("Next(%v) = %v, want %v", n, d, want)
	}
}

// next holds Next against the document's words.
func next(t *testing.T, n api.Near) { nextIs(t, n, told(n)) }

// positions is how many cells are near.
const positions = 11

// put is n with another cell: 0 itself, 1 to 6 the sides, 7 to 10 the unders.
func put(n api.Near, position int, c api.Cell) api.Near {
	switch {
	case position == 0:
		n.Self = c
	case position <= 6:
		n.Sides[position-1] = c
	default:
		n.Unders[position-7] = c
	}
	return n
}

// eachCell goes through all cells that there are.
func eachCell(do func(c api.Cell)) {
	for kind := range 256 {
		for level := range 256 {
			do(api.Cell{Kind: uint8(kind), Level: uint8(level)})
		}
	}
}

// drawer makes nears that are the same in each run.
func drawer(seed uint64) *rand.Rand { return rand.New(rand.NewPCG(seed, 15)) }

func one[T any](r *rand.Rand, l []T) T { return l[r.IntN(len(l))] }

// anything is a near at random, of the list's cells.
func anything(r *rand.Rand, from []api.Cell) api.Near {
	n := api.Near{Light: uint8(r.IntN(20)), Draw: r.Uint64()}
	if r.IntN(2) == 0 {
		n.Draw = uint64(r.IntN(48))
	}
	for position := range positions {
		n = put(n, position, one(r, from))
	}
	return n
}

// mixtures are what nears are made of at random: all cells; mostly what burns; what water goes through and what holds it; mostly water; no water; what falls and what it falls into.
func mixtures() [][]api.Cell {
	firm, fuel, soft := []api.Cell{stone, bedrock, glass, soil, mover}, append([]api.Cell{wood, leaves}, plants...), []api.Cell{air, torch(1), torch(15), plant(1), fire(0)}
	return [][]api.Cell{
		someCells(),
		slices.Concat(fuel, fuel, firm, soft, waters[:1]),
		slices.Concat(firm, firm, soft, waters[:2]),
		slices.Concat(firm, waters, wrong[:4]),
		slices.Concat(firm, soft, fuel, falling, wrong),
		slices.Concat(falling, soft, waters),
	}
}

// manyNears goes through nears at random: of any cell, of what falls, of water, of fire, and of plants, also over Soil.
func manyNears(seed uint64, count int, do func(n api.Near)) {
	r := drawer(seed)
	for _, from := range mixtures() {
		for range count {
			n := anything(r, from)
			do(n)
			for _, l := range [][]api.Cell{falling, waters, fires, plants} {
				n.Self = one(r, l)
				do(n)
			}
			n.Sides[5] = soil
			do(n)
		}
	}
}

// bases are what is near in the cases that are told apart, of each kind that does something, and of some that do nothing.
func bases() []api.Near {
	w, f, s := water, fire, stone
	l := []api.Near{
		{},
		{Self: stone, Sides: [6]api.Cell{5: air}},
		{Self: torch(9), Sides: [6]api.Cell{w(0), f(1), wood, air, w(2), air}, Light: 15},
		{Self: sand},
		{Self: gravel, Sides: [6]api.Cell{s, wood, air, soil, sand, w(3)}},
		{Self: ash, Sides: [6]api.Cell{5: soil}},
		{Self: w(0), Sides: [6]api.Cell{5: s}},
		{Self: w(0), Sides: [6]api.Cell{s, torch(3), plant(0), s, air, bedrock}},
		{Self: w(2)},
		{Self: w(2), Sides: [6]api.Cell{1: w(0), 5: s}, Unders: [4]api.Cell{1: s}},
		{Self: w(3), Sides: [6]api.Cell{w(2), w(6), air, f(0), s, s}, Unders: [4]api.Cell{s, bedrock}},
		{Self: w(1), Sides: [6]api.Cell{4: w(5), 5: plant(2)}},
		{Self: w(7), Sides: [6]api.Cell{w(6), air, air, air, air, s}, Unders: [4]api.Cell{s}},
		{Self: f(0)},
		{Self: f(1), Sides: [6]api.Cell{s, bedrock, sand, glass, torch(3), f(1)}, Draw: 7},
		{Self: f(0), Sides: [6]api.Cell{wood, leaves, plant(2), wood, leaves, plant(0)}, Draw: 3},
		{Self: f(1), Sides: [6]api.Cell{wood, air, air, leaves, air, soil}, Draw: 7},
		{Self: f(0), Sides: [6]api.Cell{air, plant(1), air, air, s, wood}, Draw: 26},
		{Self: f(1), Sides: [6]api.Cell{wood, leaves, w(3), plant(3), air, soil}, Draw: 1},
	}
	for level := range uint8(4) {
		n := api.Near{Self: plant(level), Sides: [6]api.Cell{wood, w(1), f(1), air, air, soil}, Light: 9, Draw: 4}
		dim, late, loose := n, n, n
		dim.Light, late.Draw, loose.Sides[5] = 8, math.MaxUint64, sand
		l = append(l, n, dim, late, loose)
	}
	return l
}

// P15.1: each number that a uint8 holds.
func TestDelay(t *testing.T) {
	delays := map[uint8]int{4: 1, 5: 1, 8: 1, 12: 5, 13: 2, 14: 3}
	for k := range 256 {
		if got, want := Delay(uint8(k)), delays[uint8(k)]; got != want {
			t.Errorf("Delay(%d) = %d, want %d", k, got, want)
		}
	}
}
