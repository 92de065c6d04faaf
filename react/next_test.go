package react

import (
	"math"
	"slices"
	"testing"

	"bedrock/api"
	"bedrock/burn"
	"bedrock/fall"
	"bedrock/flow"
)

// P15.2: cells of every kind and of every level as the cell itself, in each of the bases' surroundings.
func TestNextOfEveryCell(t *testing.T) {
	for _, base := range bases() {
		eachCell(func(c api.Cell) { next(t, put(base, 0, c)) })
	}
}

// P15.2: cells of every kind and of every level at each other position of each of the bases.
func TestNextAmongEveryCell(t *testing.T) {
	for _, base := range bases() {
		for position := 1; position < positions; position++ {
			eachCell(func(c api.Cell) { next(t, put(base, position, c)) })
		}
	}
}

// P15.2: some cells, at each two positions of each of the bases.
func TestNextOfEachTwo(t *testing.T) {
	for _, base := range bases() {
		for first := range positions {
			for second := range first {
				for _, c := range someCells() {
					for _, d := range someCells() {
						next(t, put(put(base, first, c), second, d))
					}
				}
			}
		}
	}
}

// P15.2: all that is near being at random.
func TestNextOfManyNears(t *testing.T) {
	manyNears(1, 50000, func(n api.Near) { next(t, n) })
}

// P15.2: each light, and some draws, in each of the bases.
func TestNextOfEachLightAndDraw(t *testing.T) {
	draws := []uint64{255, 256, 1<<32 - 1, 1 << 32, math.MaxInt64, 1 << 63, math.MaxUint64}
	for draw := range uint64(48) {
		draws = append(draws, draw, math.MaxUint64-draw)
	}
	for _, n := range bases() {
		for _, n.Draw = range draws {
			for light := range 256 {
				n.Light = uint8(light)
				next(t, n)
			}
		}
	}
}

// P15.2: a cell that does nothing, or that may not be, does nothing, whatever else is near.
func TestNextOfOthers(t *testing.T) {
	r := drawer(2)
	for _, c := range slices.Concat(still, wrong) {
		for _, n := range bases() {
			nextIs(t, put(n, 0, c), api.Deed{})
		}
		for _, from := range mixtures() {
			for range 300 {
				nextIs(t, put(anything(r, from), 0, c), api.Deed{})
			}
		}
	}
}

// P15.2: what falls, case by case of chapter 13.
func TestNextOfWhatFalls(t *testing.T) {
	for _, c := range falling {
		for _, below := range someCells() {
			n := api.Near{Self: c, Sides: [6]api.Cell{5: below}}
			if yields.has(below) {
				nextIs(t, n, does(0, 0, to(6, c), to(0, air)))
			} else {
				nextIs(t, n, api.Deed{})
			}
		}
	}
}

// P15.2: water, case by case of chapter 12, in its chapter's examples.
func TestNextOfWater(t *testing.T) {
	air4, stone4 := [4]api.Cell{}, [4]api.Cell{stone, stone, stone, stone}
	for _, x := range []struct {
		self   api.Cell
		sides  [6]api.Cell
		unders [4]api.Cell
		want   []api.Change
	}{
		{water(0), [6]api.Cell{5: stone}, air4, []api.Change{to(1, water(1)), to(2, water(1)), to(3, water(1)), to(4, water(1))}},
		{water(0), [6]api.Cell{}, air4, []api.Change{to(6, water(1))}},
		{water(0), [6]api.Cell{5: water(1)}, air4, nil},
		{water(2), [6]api.Cell{1: water(0), 5: stone}, stone4, []api.Change{to(0, water(1))}},
		{water(2), [6]api.Cell{}, air4, []api.Change{to(0, air)}},
		{water(7), [6]api.Cell{4: water(0), 5: stone}, air4, []api.Change{to(0, water(1))}},
		{water(1), [6]api.Cell{0: stone, 2: torch(1), 4: water(0), 5: stone}, air4, []api.Change{to(2, water(2)), to(3, water(2)), to(4, water(2))}},
		{water(7), [6]api.Cell{2: water(6), 5: stone}, stone4, nil},
		{water(7), [6]api.Cell{2: water(6)}, stone4, []api.Change{to(6, water(1))}},
		{water(3), [6]api.Cell{3: water(2)}, air4, []api.Change{to(0, air)}},
		{water(3), [6]api.Cell{3: water(2), 5: glass}, stone4, []api.Change{to(1, water(4)), to(2, water(4)), to(3, water(4))}},
		{water(1), [6]api.Cell{4: water(8)}, air4, []api.Change{to(0, air)}},
		{water(0), [6]api.Cell{5: {Kind: 0, Level: 1}}, air4, []api.Change{to(1, water(1)), to(2, water(1)), to(3, water(1)), to(4, water(1))}},
	} {
		nextIs(t, api.Near{Self: x.self, Sides: x.sides, Unders: x.unders}, does(0, 0, x.want...))
	}
}

// P15.2: fire and plants, case by case of chapter 14, in its chapter's examples.
func TestNextOfFireAndPlants(t *testing.T) {
	east, rooted := [6]api.Cell{wood}, [6]api.Cell{5: soil}
	for _, x := range []struct {
		n    api.Near
		want api.Deed
	}{
		{api.Near{Self: fire(0)}, does(0, 0, to(0, air))},
		{api.Near{Self: fire(1)}, does(0, 1, to(0, ash))},
		{api.Near{Self: fire(0), Sides: east}, does(3, -1, to(1, fire(1)))},
		{api.Near{Self: fire(1), Sides: [6]api.Cell{3: leaves}, Draw: 9}, does(3, -1, to(4, fire(0)))},
		{api.Near{Self: fire(0), Sides: [6]api.Cell{plant(2)}, Draw: 6}, does(3, 0, to(1, fire(0)))},
		{api.Near{Self: fire(1), Sides: east, Draw: 1}, does(0, 1, to(0, ash))},
		{api.Near{Self: fire(1), Sides: east, Draw: 7}, does(3, 0)},
		{api.Near{Self: fire(1), Sides: [6]api.Cell{0: wood, 4: water(0)}}, does(0, 1, to(0, ash))},
		{api.Near{Self: fire(2), Sides: east}, api.Deed{}},
		{api.Near{Self: plant(0), Sides: rooted, Light: 9, Draw: 4}, does(0, 0, to(0, plant(1)))},
		{api.Near{Self: plant(0), Sides: rooted, Light: 8, Draw: 4}, does(5, 0)},
		{api.Near{Self: plant(0), Sides: rooted, Light: 9, Draw: 5}, does(5, 0)},
		{api.Near{Self: plant(3), Sides: rooted, Light: 15}, does(0, 1, to(0, leaves))},
		{api.Near{Self: plant(3), Sides: [6]api.Cell{5: stone}, Light: 15}, does(0, 0, to(0, air))},
		{api.Near{Self: plant(4), Sides: rooted, Light: 15}, api.Deed{}},
	} {
		nextIs(t, x.n, x.want)
	}
}

// P15.2: what the lower layers tell is told just as it is.
func TestNextAsTheLowerLayers(t *testing.T) {
	manyNears(3, 5000, func(n api.Near) {
		var want api.Deed
		switch {
		case falls.has(n.Self):
			want = fall.Next(n)
		case wet.has(n.Self):
			want = flow.Next(n)
		case afire.has(n.Self):
			want = burn.Fire(n)
		case planted.has(n.Self):
			want = burn.Plant(n)
		}
		nextIs(t, n, want)
	})
}
