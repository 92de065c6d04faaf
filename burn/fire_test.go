package burn

import (
	"slices"
	"testing"

	"bedrock/api"
)

// P14.1: only Fire that may be does something: all cells there are, among what ends it, what it sets on fire, what lets it go on.
func TestFireOfEveryCell(t *testing.T) {
	around := [][6]api.Cell{{}, {0: wood}, {leaves, wood, plant(0), plant(3), wood, leaves}, {3: water(7)}, {stone, water(0), wood, wood, wood, wood}, {5: soil}}
	eachCell(func(c api.Cell) {
		for _, sides := range around {
			for _, draw := range []uint64{0, 1, 3, 5, 6, 7, 24, 25} {
				n := api.Near{Self: c, Sides: sides, Draw: draw, Light: 15}
				want := api.Deed{}
				if slices.Contains(fires, c) {
					want = burnt(n)
				}
				fireDoes(t, n, want)
			}
		}
	})
}

// P14.1, case 1: Water of each level, at each side, alone and with each cell at each other side, ends fire whatever the draw.
func TestFireBesideWater(t *testing.T) {
	for _, self := range fires {
		for dir := range 6 {
			for _, c := range waters {
				for _, draw := range draws() {
					n := api.Near{Self: self, Draw: draw}
					n.Sides[dir] = c
					fireDoes(t, n, end(self.Level))
					n.Sides = [6]api.Cell{wood, leaves, plant(0), wood, leaves, plant(3)}
					n.Sides[dir] = c
					fireDoes(t, n, end(self.Level))
				}
			}
		}
	}
}

// P14.1, case 1: Water at one side, what burns at each other one, at which each draw points.
func TestFireBesideWaterAndOneThatBurns(t *testing.T) {
	for _, self := range fires {
		for wet := range 6 {
			for dir := range 6 {
				for _, c := range burning {
					n := api.Near{Self: self, Draw: uint64(dir) + 6}
					n.Sides[dir], n.Sides[wet] = c, water(7)
					fireDoes(t, n, end(self.Level))
				}
			}
		}
	}
}

// P14.1: Water that may not be is Bedrock: fire goes on beside it as if it were not there.
func TestFireBesideWrongWater(t *testing.T) {
	for _, self := range fires {
		for wet := range 6 {
			for level := 8; level < 256; level++ {
				dir := (wet + 1 + level%5) % 6
				n := api.Near{Self: self, Draw: uint64(dir)}
				n.Sides[wet], n.Sides[dir] = water(uint8(level)), leaves
				fireDoes(t, n, catch(dir, leaves))
				n.Draw = uint64(wet) + 6
				fireDoes(t, n, waits(3))
			}
		}
	}
}

// P14.1, cases 2 to 4: one side that burns, each cell that does, at each direction, for each draw.
func TestFireBesideOneThatBurns(t *testing.T) {
	for _, self := range fires {
		for dir := range 6 {
			for _, c := range burning {
				for _, draw := range draws() {
					n := api.Near{Self: self, Draw: draw}
					n.Sides[dir] = c
					want := waits(3)
					if draw/6%4 == 0 {
						want = end(self.Level)
					}
					if draw%6 == uint64(dir) {
						want = catch(dir, c)
					}
					fireDoes(t, n, want)
				}
			}
		}
	}
}

// P14.1, case 2: where all sides burn the draw's side is set on fire, whatever the draw.
func TestFireAmongWhatBurns(t *testing.T) {
	for _, self := range fires {
		for turn := range burning {
			n := api.Near{Self: self}
			for dir := range 6 {
				n.Sides[dir] = burning[(dir+turn)%len(burning)]
			}
			for _, n.Draw = range draws() {
				dir := int(n.Draw % 6)
				fireDoes(t, n, catch(dir, n.Sides[dir]))
			}
		}
	}
}

// P14.1, case 2: what a side becomes: Fire of the level 1 of Wood alone; Wood and Leaves are movable, a Plant is not; cells of these kinds that may not be do not burn.
func TestFireSetsOnFire(t *testing.T) {
	for _, self := range fires {
		for dir := range 6 {
			n := api.Near{Self: self, Draw: uint64(dir) + 6}
			n.Sides[dir] = wood
			fireDoes(t, n, to(1+dir, fire(1), -1, 3))
			n.Sides[dir] = leaves
			fireDoes(t, n, to(1+dir, fire(0), -1, 3))
			for _, n.Sides[dir] = range plants {
				fireDoes(t, n, to(1+dir, fire(0), 0, 3))
			}
			for _, n.Sides[dir] = range append([]api.Cell{{Kind: 6, Level: 1}, {Kind: 6, Level: 128}, {Kind: 7, Level: 1}, {Kind: 12, Level: 4}, {Kind: 12, Level: 255}}, idle...) {
				fireDoes(t, n, end(self.Level))
				other := n
				other.Sides[(dir+3)%6] = leaves
				fireDoes(t, other, waits(3))
			}
		}
	}
}

// P14.1, case 3: no side that burns, all sides being one cell, each that does not.
func TestFireAmongWhatDoesNotBurn(t *testing.T) {
	for _, self := range fires {
		for _, c := range slices.Concat(idle, wrong) {
			for _, draw := range draws() {
				fireDoes(t, api.Near{Self: self, Sides: [6]api.Cell{c, c, c, c, c, c}, Draw: draw}, end(self.Level))
			}
		}
	}
}

// P14.1, cases 3 and 4: which sixth parts of the draw end fire, one after the other.
func TestFireTurns(t *testing.T) {
	for _, self := range fires {
		n := api.Near{Self: self, Sides: [6]api.Cell{5: leaves}}
		for turn := range uint64(1000) {
			n.Draw = turn*6 + turn%5
			want := waits(3)
			if turn&3 == 0 {
				want = end(self.Level)
			}
			fireDoes(t, n, want)
		}
	}
}

// P14.1: what is left of fire is its own level's, whatever burns beside.
func TestWhatIsLeft(t *testing.T) {
	for _, around := range [][6]api.Cell{{}, {1: wood}, {2: plant(0)}, {wood, leaves, air, wood, water(0), wood}, {3: water(5)}} {
		fireDoes(t, api.Near{Self: fire(0), Sides: around}, to(0, air, 0, 0))
		fireDoes(t, api.Near{Self: fire(1), Sides: around}, to(0, ash, 1, 0))
	}
}

// P14.1: the cells below the level sides, and Light, change nothing, whatever they are.
func TestFireElsewhere(t *testing.T) {
	for _, base := range bases() {
		want := burnt(base)
		eachCell(func(c api.Cell) {
			n := base
			for dir := range n.Unders {
				n.Unders[dir] = c
				fireDoes(t, n, want)
			}
			n.Light = c.Level
			fireDoes(t, n, want)
		})
	}
}
