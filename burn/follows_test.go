package burn

import (
	"math"
	"math/rand/v2"
	"slices"
	"testing"

	"bedrock/api"
)

// movableNear tells how many of the cell and its sides are movable, by the document's table.
func movableNear(n api.Near) (count int) {
	for position := range 7 {
		c := n.Self
		if position > 0 {
			c = n.Sides[position-1]
		}
		if isMoved(c) {
			count++
		}
	}
	return count
}

// behind is n with the deed's changes done.
func behind(n api.Near, d api.Deed) api.Near {
	for _, x := range d.Changes {
		n = put(n, x.Dir, x.Cell)
	}
	return n
}

// isMade tells whether the cell is one of those that a change may make.
func isMade(c api.Cell) bool {
	return slices.Contains(slices.Concat(fires, plants, []api.Cell{air, ash, leaves}), c)
}

// counts holds a deed of what is near against what P14.3 says of each.
func counts(t *testing.T, n api.Near, d api.Deed) {
	if len(d.Changes) > 1 {
		t.Fatalf("of %v: %d changes", n, len(d.Changes))
	}
	for _, x := range d.Changes {
		if x.Dir < 0 || x.Dir > 6 || !isMade(x.Cell) {
			t.Fatalf("of %v: the change %v", n, x)
		}
	}
	if more := movableNear(behind(n, d)) - movableNear(n); d.Delta != more {
		t.Fatalf("of %v: Delta %d, but %d more cells are movable", n, d.Delta, more)
	}
}

// bothCount holds the deeds of Fire and of Plant against what P14.3 says of each.
func bothCount(t *testing.T, n api.Near) {
	counts(t, n, Fire(n))
	counts(t, n, Plant(n))
}

// P14.3: Delta, recounted, and one change at most, of nears at random.
func TestDeltaOfMany(t *testing.T) {
	manyNears(21, 50000, func(n api.Near) { bothCount(t, n) })
}

// P14.3: Delta, recounted, of each pair of cells at the place and at a side, and at each two sides.
func TestDeltaOfPairs(t *testing.T) {
	r := drawer(22)
	for _, c := range slices.Concat(someCells(), fires, plants) {
		for _, d := range someCells() {
			for dir := range 6 {
				n := api.Near{Self: c, Light: uint8(5 + r.IntN(8)), Draw: uint64(r.IntN(24))}
				n.Sides[5] = soil
				n.Sides[dir] = d
				bothCount(t, n)
				for other := range dir {
					n.Self, n.Sides[dir], n.Sides[other] = one(r, slices.Concat(fires, plants)), c, d
					bothCount(t, n)
				}
			}
		}
	}
}

// react is what a cell does, of fire and of plants: at most one of both does anything.
func react(t *testing.T, n api.Near) api.Deed {
	f, p := Fire(n), Plant(n)
	if !same(f, api.Deed{}) && !same(p, api.Deed{}) {
		t.Fatalf("of %v both Fire and Plant tell something: %v, %v", n, f, p)
	}
	if same(f, api.Deed{}) {
		return p
	}
	return f
}

// wide is a world's side: small, so that what burns and what grows comes together.
const wide = 4

// world is a cube of cells: by X, then by Y, then by Z.
type world [wide][wide][wide]api.Cell

// steps are the directions' steps.
var steps = [6][3]int{{1, 0, 0}, {-1, 0, 0}, {0, 0, 1}, {0, 0, -1}, {0, 1, 0}, {0, -1, 0}}

// at is the cell there, or nil where there is no place.
func (w *world) at(p [3]int) *api.Cell {
	for _, x := range p {
		if x < 0 || x >= wide {
			return nil
		}
	}
	return &w[p[0]][p[1]][p[2]]
}

func plus(p [3]int, dir int) [3]int {
	return [3]int{p[0] + steps[dir][0], p[1] + steps[dir][1], p[2] + steps[dir][2]}
}

// near is what is near the place: what is no place is Bedrock.
func (w *world) near(p [3]int, light uint8, draw uint64) api.Near {
	n := api.Near{Self: *w.at(p), Light: light, Draw: draw}
	for dir := range 6 {
		n.Sides[dir] = bedrock
		if c := w.at(plus(p, dir)); c != nil {
			n.Sides[dir] = *c
		}
	}
	return n
}

// movables tells how many of the world's cells are movable.
func (w *world) movables() (count int) {
	for x := range wide {
		for y := range wide {
			for _, c := range w[x][y] {
				if isMoved(c) {
					count++
				}
			}
		}
	}
	return count
}

// anyWorld is a world at random: Soil below, what burns, what grows and fire above.
func anyWorld(r *rand.Rand) *world {
	from := slices.Concat(burning, burning, fires, idle, []api.Cell{water(2)})
	w := new(world)
	for x := range wide {
		for y := range wide {
			for z := range wide {
				w[x][y][z] = one(r, from)
			}
		}
		w[x][0] = [wide]api.Cell{soil, soil, soil, soil}
		w[x][1][r.IntN(wide)] = plant(0)
	}
	return w
}

// turn lets the place react, and holds its Delta against how many cells of the whole world are movable.
func (w *world) turn(t *testing.T, p [3]int, light uint8, draw uint64) {
	before := w.movables()
	d := react(t, w.near(p, light, draw))
	for _, x := range d.Changes {
		if x.Dir == 0 {
			*w.at(p) = x.Cell
			continue
		}
		*w.at(plus(p, x.Dir-1)) = x.Cell
	}
	if more := w.movables() - before; d.Delta != more {
		t.Fatalf("Delta %d, but the world has %d more movable cells", d.Delta, more)
	}
}

// P14.3: Delta, recounted over a whole world in which fires and plants stand side by side, turn by turn.
func TestDeltaOfWorlds(t *testing.T) {
	r := drawer(23)
	for range 300 {
		w := anyWorld(r)
		for range 1000 {
			w.turn(t, [3]int{r.IntN(wide), r.IntN(wide), r.IntN(wide)}, uint8(r.IntN(16)), r.Uint64())
		}
	}
}

// P14.3: fire without a side that burns, and fire beside water, is over at once whatever the draw.
func TestFireOverAtOnce(t *testing.T) {
	r := drawer(25)
	dry, all := slices.Concat(idle, wrong), someCells()
	for range 5000 {
		n := anything(r, dry)
		n.Self = one(r, fires)
		wet := anything(r, all)
		wet.Self, wet.Sides[r.IntN(6)] = n.Self, one(r, waters)
		for _, draw := range drawsFrom(r.Uint64()) {
			n.Draw, wet.Draw = draw, draw
			fireDoes(t, n, end(n.Self.Level))
			fireDoes(t, wet, end(n.Self.Level))
		}
	}
}

// P14.3: no water being beside, each side that burns is set on fire by some draw from 0 to 5, and no other side is.
func TestEachSideCatches(t *testing.T) {
	r := drawer(26)
	from := slices.Concat(burning, idle, wrong)
	for range 50000 {
		n := anything(r, from)
		n.Self = one(r, fires)
		var caught [6]bool
		for n.Draw = range uint64(6) {
			for _, x := range Fire(n).Changes {
				if x.Dir > 0 {
					caught[x.Dir-1] = true
				}
			}
		}
		for dir, c := range n.Sides {
			if caught[dir] != isFuel(c) {
				t.Fatalf("of %v the side %d is set on fire by a draw from 0 to 5: %t", n, dir, caught[dir])
			}
		}
	}
}

// P14.3: a plant in the dark never grows, whatever the draw, and whatever is near.
func TestPlantInTheDark(t *testing.T) {
	r := drawer(27)
	all := someCells()
	for _, self := range plants {
		for light := range uint8(9) {
			for _, draw := range draws() {
				n := anything(r, all)
				n.Self, n.Sides[5], n.Light, n.Draw = self, soil, light, draw
				plantDoes(t, n, waits(5))
			}
		}
	}
}

// The document's example: fire beside Wood makes that fire, in its time, then Ash: Burnt 1, Grown 1.
func TestWoodBurnsToAsh(t *testing.T) {
	w := new(world)
	w[0][0][0], w[1][0][0] = fire(0), wood
	w.turn(t, [3]int{0, 0, 0}, 0, 0)
	if w[1][0][0] != fire(1) {
		t.Fatalf("the wood is %v", w[1][0][0])
	}
	w.turn(t, [3]int{1, 0, 0}, 0, math.MaxUint64)
	w.turn(t, [3]int{0, 0, 0}, 0, math.MaxUint64)
	if w[1][0][0] != ash || w[0][0][0] != air || w.movables() != 1 {
		t.Fatalf("at the end there is %v beside %v", w[1][0][0], w[0][0][0])
	}
}

// R4: what is answered is new memory: a change of one answer, or of the room behind it, changes none of another.
func TestNewMemory(t *testing.T) {
	for _, do := range []func(n api.Near) api.Deed{Fire, Plant} {
		for _, n := range bases() {
			first, second := do(n), do(n)
			want := api.Deed{Changes: slices.Clone(second.Changes), Again: second.Again, Delta: second.Delta}
			room := first.Changes[:cap(first.Changes)]
			for i := range room {
				room[i] = api.Change{Dir: 99, Cell: stone}
			}
			_ = append(first.Changes, api.Change{Dir: 98})
			if !same(second, want) || !same(do(n), want) {
				t.Fatalf("of %v: a change of one answer made another one %v, want %v", n, second, want)
			}
		}
	}
}

// R4, R6: what is handed in is as it was, and what is answered hangs on it alone, not on what was asked ahead of it.
func TestHangsOnTheArgumentAlone(t *testing.T) {
	var all []api.Near
	manyNears(28, 500, func(n api.Near) { all = append(all, n) })
	before := slices.Clone(all)
	for _, n := range slices.Backward(all) {
		both(t, n)
		both(t, all[0])
		both(t, n)
	}
	if !slices.Equal(all, before) {
		t.Error("what was handed in is another thing behind the calls")
	}
}

// R1: nothing panics, whatever is handed in.
func TestNoPanic(t *testing.T) {
	r := drawer(29)
	for range 300000 {
		n := api.Near{Light: uint8(r.Uint32()), Draw: r.Uint64()}
		for position := range positions {
			n = put(n, position, api.Cell{Kind: uint8(r.Uint32()), Level: uint8(r.Uint32())})
		}
		both(t, n)
		n.Self = api.Cell{Kind: 12 + uint8(r.IntN(3)), Level: uint8(r.IntN(5))}
		both(t, n)
		bothCount(t, n)
	}
}
