package react

import (
	"math"
	"math/rand/v2"
	"slices"
	"testing"

	"bedrock/api"
)

// firm are the kinds that nothing changes.
var firm = setOf([]api.Cell{bedrock, stone, soil, glass, mover})

// counts holds what Next tells of the near against what P15.4 and P15.5 say of each.
func counts(t *testing.T, n api.Near) {
	d := Next(n)
	if got, want := Delta(n, d), more(n, d); d.Delta != got || got != want {
		t.Fatalf("of %v: Next's Delta is %d, Delta tells %d, and %d more are movable", n, d.Delta, got, want)
	}
	if len(d.Changes) > 4 {
		t.Fatalf("of %v: %d changes", n, len(d.Changes))
	}
	var met [7]bool
	for _, x := range d.Changes {
		if x.Dir < 0 || x.Dir > 6 || met[x.Dir] || !sound.has(x.Cell) {
			t.Fatalf("of %v: the changes %v", n, d.Changes)
		}
		met[x.Dir] = true
		old := cellAt(n, x.Dir)
		if firm.has(old) || !sound.has(old) {
			t.Fatalf("of %v: %v is changed: %v", n, old, d.Changes)
		}
	}
	if delay := Delay(n.Self.Kind); d.Again != 0 && d.Again != delay || delay == 0 && !same(d, api.Deed{}) {
		t.Fatalf("of %v: the delay %d, and the deed %v", n, delay, d)
	}
}

// P15.4, P15.5: of nears at random, of each kind, and of each kind's surroundings.
func TestCountsOfMany(t *testing.T) {
	manyNears(21, 20000, func(n api.Near) { counts(t, n) })
	r := drawer(22)
	for _, c := range someCells() {
		for _, from := range mixtures() {
			for range 200 {
				counts(t, put(anything(r, from), 0, c))
			}
		}
		for _, n := range bases() {
			counts(t, put(n, 0, c))
		}
	}
}

// P15.5: every kind and level, at each position that can be changed.
func TestCountsOfEveryCell(t *testing.T) {
	for _, base := range bases() {
		for position := range 7 {
			eachCell(func(c api.Cell) { counts(t, put(base, position, c)) })
		}
	}
}

// P15.4: such as come up seldom, each with the Delta by the document's words.
func TestCountsOfSeldomOnes(t *testing.T) {
	at := func(dir int, c api.Cell) (l [6]api.Cell) { l[dir] = c; return l }
	check := func(n api.Near, want int) {
		counts(t, n)
		if d := Next(n); d.Delta != want || Delta(n, d) != want || len(d.Changes) == 0 {
			t.Fatalf("of %v: %v, want the Delta %d", n, d, want)
		}
	}
	for dir := range 6 {
		for _, self := range fires {
			check(api.Near{Self: self, Sides: at(dir, wood), Draw: uint64(dir) + 12}, -1)
			check(api.Near{Self: self, Sides: at(dir, leaves), Draw: uint64(dir) + 18}, -1)
			check(api.Near{Self: self, Sides: at(dir, plant(1)), Draw: uint64(dir)}, 0)
			check(api.Near{Self: self, Sides: at(dir, water(2))}, int(self.Level))
			check(api.Near{Self: self, Sides: at(dir, wood), Draw: uint64(dir+1) % 6}, int(self.Level))
		}
	}
	check(api.Near{Self: plant(3), Sides: at(5, soil), Light: 15, Draw: math.MaxUint64 - 3}, 1)
	check(api.Near{Self: plant(2), Sides: at(5, soil), Light: 15}, 0)
	check(api.Near{Self: plant(2), Sides: at(5, sand)}, 0)
	for _, c := range falling {
		for _, below := range slices.Concat([]api.Cell{air}, torches, plants, waters, fires) {
			check(api.Near{Self: c, Sides: at(5, below)}, 0)
		}
	}
	check(api.Near{Self: water(0), Sides: [6]api.Cell{plant(0), torch(1), plant(3), fire(1), sand, stone}}, 0)
	check(api.Near{Self: water(0), Sides: at(5, plant(2))}, 0)
	check(api.Near{Self: water(4)}, 0)
}

// P15.5: which of Light, Draw and Unders what is done hangs on: of each kind on no other than those, and on those indeed.
func TestWhatCounts(t *testing.T) {
	r := drawer(23)
	var light, draw, under [256]bool
	manyNears(24, 4000, func(n api.Near) {
		want := Next(n)
		for range 4 {
			dim, late, below := n, n, n
			dim.Light, late.Draw, below.Unders[r.IntN(4)] = uint8(r.IntN(20)), uint64(r.IntN(48)), one(r, someCells())
			light[n.Self.Kind] = light[n.Self.Kind] || !same(Next(dim), want)
			draw[n.Self.Kind] = draw[n.Self.Kind] || !same(Next(late), want)
			under[n.Self.Kind] = under[n.Self.Kind] || !same(Next(below), want)
		}
	})
	for k := range 256 {
		if light[k] != (k == 12) || draw[k] != (k == 12 || k == 14) || under[k] != (k == 13) {
			t.Errorf("what the kind %d does hangs on Light: %t, Draw: %t, Unders: %t", k, light[k], draw[k], under[k])
		}
	}
}

// wide is a world's side: small, so that all that does something comes together.
const wide = 4

// world is a cube of cells: by X, then by Y, then by Z.
type world [wide][wide][wide]api.Cell

// steps are the directions' steps.
var steps = [6][3]int{{1, 0, 0}, {-1, 0, 0}, {0, 0, 1}, {0, 0, -1}, {0, 1, 0}, {0, -1, 0}}

func plus(p [3]int, dir int) [3]int {
	return [3]int{p[0] + steps[dir][0], p[1] + steps[dir][1], p[2] + steps[dir][2]}
}

// cell is what is there: what is no place is Bedrock.
func (w *world) cell(p [3]int) api.Cell {
	for _, x := range p {
		if x < 0 || x >= wide {
			return bedrock
		}
	}
	return w[p[0]][p[1]][p[2]]
}

// near is what is near the place.
func (w *world) near(p [3]int, light uint8, draw uint64) api.Near {
	n := api.Near{Self: w.cell(p), Light: light, Draw: draw}
	for dir := range n.Sides {
		n.Sides[dir] = w.cell(plus(p, dir))
	}
	for dir := range n.Unders {
		n.Unders[dir] = w.cell(plus(plus(p, dir), 5))
	}
	return n
}

// movables tells how many of the world's cells are movable.
func (w *world) movables() (count int) {
	for x := range wide {
		for y := range wide {
			for _, c := range w[x][y] {
				if moved.has(c) {
					count++
				}
			}
		}
	}
	return count
}

// anyWorld is a world at random: Soil below, all else above.
func anyWorld(r *rand.Rand) *world {
	from := slices.Concat(active, active, still, []api.Cell{wood, wood, leaves, leaves, stone, stone, air, air, air})
	w := new(world)
	for x := range wide {
		for y := range wide {
			for z := range wide {
				w[x][y][z] = one(r, from)
			}
		}
		w[x][0] = [wide]api.Cell{soil, soil, soil, soil}
		w[x][1][r.IntN(wide)] = plant(0)
	}
	return w
}

// turn lets the place react, and holds Next's Delta against how many cells of the whole world are movable, and Behind against what is near now.
func (w *world) turn(t *testing.T, p [3]int, light uint8, draw uint64) {
	before, n := w.movables(), w.near(p, light, draw)
	d := Next(n)
	for _, x := range d.Changes {
		q := p
		if x.Dir > 0 {
			q = plus(p, x.Dir-1)
		}
		w[q[0]][q[1]][q[2]] = x.Cell
	}
	if count := w.movables() - before; d.Delta != count {
		t.Fatalf("of %v: %v, but the world has %d more movable cells", n, d, count)
	}
	now := w.near(p, light, draw)
	now.Unders = n.Unders
	if got := Behind(n, d); got != now {
		t.Fatalf("Behind(%v, %v) = %v, but there is %v", n, d, got, now)
	}
}

// P15.3, P15.4: turn by turn in whole worlds, in which all that does something stands side by side.
func TestWorlds(t *testing.T) {
	r := drawer(25)
	for range 200 {
		w := anyWorld(r)
		for range 1000 {
			w.turn(t, [3]int{r.IntN(wide), r.IntN(wide), r.IntN(wide)}, uint8(r.IntN(16)), r.Uint64())
		}
	}
}

// P15.6: a change written into one answer, or into the room behind it, changes no other one.
func TestNewMemory(t *testing.T) {
	all := bases()
	manyNears(26, 200, func(n api.Near) { all = append(all, n) })
	for _, n := range all {
		before := n
		first, second := Next(n), Next(n)
		want := api.Deed{Changes: slices.Clone(second.Changes), Again: second.Again, Delta: second.Delta}
		room := first.Changes[:cap(first.Changes)]
		for i := range room {
			room[i] = to(99, stone)
		}
		_ = append(first.Changes, to(98, air))
		if !same(second, want) || n != before {
			t.Fatalf("of %v: a change of one answer made another one %v, want %v", before, second, want)
		}
		nextIs(t, n, want)
	}
}

// P15.6: the list of the deed that is handed in, and what lies behind its end, are as they were.
func TestHandedInStays(t *testing.T) {
	r := drawer(27)
	for range 20000 {
		n, d := anything(r, someCells()), anyDeed(r, 12, someCells())
		room := slices.Clone(d.Changes)
		before, changes := n, slices.Clone(room)
		d.Changes = room[:r.IntN(13)]
		long, again, delta := len(d.Changes), d.Again, d.Delta
		after := Behind(n, d)
		Delta(n, d)
		if !slices.Equal(room, changes) || n != before || len(d.Changes) != long || d.Again != again || d.Delta != delta {
			t.Fatalf("%v and %v are another thing behind the calls", before, changes)
		}
		clear(room)
		if after != done(n, api.Deed{Changes: changes[:long]}) {
			t.Fatalf("a change of the list changed what Behind had answered: %v", after)
		}
	}
}

// R6: what is answered hangs on the arguments alone, not on what was asked ahead of it.
func TestHangsOnTheArgumentAlone(t *testing.T) {
	all := bases()
	manyNears(28, 300, func(n api.Near) { all = append(all, n) })
	before := slices.Clone(all)
	for i, n := range slices.Backward(all) {
		d := told(all[len(all)-1-i])
		next(t, n)
		follows(t, n, d)
		next(t, all[7])
		follows(t, n, d)
		next(t, n)
	}
	if !slices.Equal(all, before) {
		t.Error("what was handed in is another thing behind the calls")
	}
}

// R1: nothing panics, whatever is handed in.
func TestNoPanic(t *testing.T) {
	r := drawer(29)
	for range 200000 {
		n := anyNear(r)
		next(t, n)
		n.Self = api.Cell{Kind: uint8(r.IntN(16)), Level: uint8(r.IntN(9))}
		next(t, n)
		d := api.Deed{Again: int(r.Uint64()), Delta: int(r.Uint64())}
		for range r.IntN(9) {
			d.Changes = append(d.Changes, to(int(r.Uint64()>>r.IntN(64)), api.Cell{Kind: uint8(r.Uint32()), Level: uint8(r.Uint32())}))
		}
		follows(t, n, d)
	}
}
