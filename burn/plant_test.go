package burn

import (
	"slices"
	"testing"

	"bedrock/api"
)

// rooted is a plant over Soil, all else near being Air.
func rooted(level, light uint8, draw uint64) api.Near {
	return api.Near{Self: plant(level), Sides: [6]api.Cell{5: soil}, Light: light, Draw: draw}
}

// taller is the deed by which a plant of the level grows, by the document's words.
func taller(level uint8) api.Deed {
	if level < 3 {
		return to(0, plant(level+1), 0, 0)
	}
	return to(0, leaves, 1, 0)
}

// P14.2: only a Plant that may be does something: all cells there are, over Soil and over others, in light and in the dark.
func TestPlantOfEveryCell(t *testing.T) {
	eachCell(func(c api.Cell) {
		for _, below := range []api.Cell{soil, air, stone, plant(0)} {
			for _, light := range []uint8{0, 8, 9, 15} {
				for draw := range uint64(4) {
					n := api.Near{Self: c, Sides: [6]api.Cell{5: below}, Light: light, Draw: draw}
					want := api.Deed{}
					if slices.Contains(plants, c) {
						want = grown(n)
					}
					plantDoes(t, n, want)
				}
			}
		}
	})
}

// P14.2, case 1: all cells there are as the side below: over Soil that may be alone a plant stays.
func TestPlantOverEveryCell(t *testing.T) {
	for level := range uint8(4) {
		for _, light := range []uint8{0, 8, 9, 255} {
			for _, draw := range []uint64{0, 1} {
				eachCell(func(c api.Cell) {
					n := rooted(level, light, draw)
					n.Sides[5] = c
					want := to(0, air, 0, 0)
					if c == soil {
						want = grown(n)
					}
					plantDoes(t, n, want)
				})
			}
		}
	}
}

// P14.2, cases 2 to 4: each light, and each draw of some, over Soil, at each level.
func TestPlantGrows(t *testing.T) {
	for level := range uint8(4) {
		for light := range 256 {
			for _, draw := range draws() {
				want := waits(5)
				if light >= 9 && draw%4 == 0 {
					want = taller(level)
				}
				plantDoes(t, rooted(level, uint8(light), draw), want)
			}
		}
	}
}

// P14.2: where light and draw are no bar the side below is looked at first.
func TestPlantWithoutSoilFirst(t *testing.T) {
	for level := range uint8(4) {
		for light := range 256 {
			for _, draw := range draws() {
				n := rooted(level, uint8(light), draw)
				n.Sides[5] = wood
				plantDoes(t, n, to(0, air, 0, 0))
			}
		}
	}
}

// P14.2: the other sides, and the cells below the level sides, change nothing, whatever they are; nor does Soil at another side hold a plant.
func TestPlantElsewhere(t *testing.T) {
	for _, base := range bases() {
		want := grown(base)
		eachCell(func(c api.Cell) {
			for position := 1; position < positions; position++ {
				if position != 6 {
					plantDoes(t, put(base, position, c), want)
				}
			}
		})
		for position := 1; position < positions; position++ {
			if position != 6 {
				base = put(base, position, soil)
			}
		}
		plantDoes(t, base, want)
	}
}

// P14.2: from its first level on a plant is Leaves behind four turns that let it grow; turns between these change nothing.
func TestPlantFromFirstToLast(t *testing.T) {
	n, grows, delta := rooted(0, 15, 0), 0, 0
	for n.Self != leaves {
		n.Draw += 3
		d := Plant(n)
		for _, x := range d.Changes {
			n.Self, grows = x.Cell, grows+1
		}
		delta += d.Delta
		if n.Draw > 1000 {
			t.Fatalf("behind %d turns there is still %v", n.Draw/3, n.Self)
		}
	}
	if grows != 4 || delta != 1 || n.Draw != 48 {
		t.Errorf("it grew %d times, till the draw was %d; Delta was %d in all", grows, n.Draw, delta)
	}
	plantDoes(t, n, api.Deed{})
}
