package flow

import (
	"math"
	"math/rand/v2"
	"slices"
	"testing"

	"bedrock/api"
)

// The cells that places are made of, by their numbers in the document.
var (
	air     = api.Cell{Kind: 0}
	bedrock = api.Cell{Kind: 1}
	stone   = api.Cell{Kind: 2}
	sand    = api.Cell{Kind: 4}
	glass   = api.Cell{Kind: 9}
	mover   = api.Cell{Kind: 10}
	torch   = api.Cell{Kind: 11, Level: 7}
	plant   = api.Cell{Kind: 12, Level: 3}
	fire    = api.Cell{Kind: 14, Level: 1}
)

func w(level uint8) api.Cell { return api.Cell{Kind: 13, Level: level} }

// waters are Water of each level.
var waters = []api.Cell{w(0), w(1), w(2), w(3), w(4), w(5), w(6), w(7)}

// wrong are cells that may not be: of kinds that soak, of Water, of none.
var wrong = []api.Cell{
	{Kind: 0, Level: 1}, {Kind: 0, Level: 255}, {Kind: 2, Level: 1}, {Kind: 11}, {Kind: 11, Level: 16}, {Kind: 12, Level: 4}, {Kind: 13, Level: 8},
	{Kind: 13, Level: 9}, {Kind: 13, Level: 255}, {Kind: 14, Level: 2}, {Kind: 15}, {Kind: 15, Level: 3}, {Kind: 29, Level: 3}, {Kind: 255, Level: 255},
}

// soaked are cells that soak, the ends of each kind's levels among them.
var soaked = []api.Cell{air, {Kind: 11, Level: 1}, torch, {Kind: 11, Level: 15}, {Kind: 12}, plant, {Kind: 14}, fire}

// solid are cells that neither soak nor are Water.
var solid = []api.Cell{bedrock, stone, {Kind: 3}, sand, {Kind: 5}, {Kind: 6}, {Kind: 7}, {Kind: 8}, glass, mover}

// someCells are all of these.
func someCells() []api.Cell { return slices.Concat(waters, soaked, solid, wrong) }

// isSoaked tells whether the cell soaks, by the document's table.
func isSoaked(c api.Cell) bool {
	switch c.Kind {
	case 0:
		return c.Level == 0
	case 11:
		return c.Level >= 1 && c.Level <= 15
	case 12:
		return c.Level <= 3
	case 14:
		return c.Level <= 1
	}
	return false
}

// wet tells whether the cell is Water that may be.
func wet(c api.Cell) bool { return c.Kind == 13 && c.Level <= 7 }

// isSolid tells whether the cell is neither: so is what may not be.
func isSolid(c api.Cell) bool { return !isSoaked(c) && !wet(c) }

// wanted is what the place wants, by the document's words: 0, if nothing.
func wanted(n api.Near) int {
	if wet(n.Sides[4]) {
		return 1
	}
	var fed []int
	for dir, under := range n.Unders {
		if side := n.Sides[dir]; wet(side) && isSolid(under) {
			fed = append(fed, int(side.Level))
		}
	}
	if len(fed) == 0 || slices.Min(fed) == 7 {
		return 0
	}
	return slices.Min(fed) + 1
}

func to(dir int, c api.Cell) api.Change { return api.Change{Dir: dir, Cell: c} }

// done is what is changed, by the document's words.
func done(n api.Near) []api.Change {
	if !wet(n.Self) {
		return nil
	}
	level := n.Self.Level
	if level > 0 && wanted(n) == 0 {
		return []api.Change{to(0, air)}
	}
	if level > 0 && wanted(n) != int(level) {
		return []api.Change{to(0, w(uint8(wanted(n))))}
	}
	if isSoaked(n.Sides[5]) {
		return []api.Change{to(6, w(1))}
	}
	var l []api.Change
	for dir := range 4 {
		if isSolid(n.Sides[5]) && level != 7 && isSoaked(n.Sides[dir]) {
			l = append(l, to(1+dir, w(level+1)))
		}
	}
	return l
}

// wants tells what Want answered, where it is another thing: 0 stands for nothing.
func wants(t *testing.T, n api.Near, want int) {
	t.Helper()
	if got, ok := Want(n); int(got) != want || ok != (want > 0) {
		t.Fatalf("Want(%v) = %d, %t, want %d", n, got, ok, want)
	}
}

// does tells what Next answered, where it is another thing.
func does(t *testing.T, n api.Near, want ...api.Change) {
	t.Helper()
	d := Next(n)
	if !slices.Equal(d.Changes, want) || d.Again != 0 || d.Delta != 0 {
		t.Fatalf("Next(%v) = %v, want the changes %v alone", n, d, want)
	}
}

// both holds Want and Next against the document's words.
func both(t *testing.T, n api.Near) {
	t.Helper()
	wants(t, n, wanted(n))
	does(t, n, done(n)...)
}

// near is the cell, its sides and, as far as there are some, the cells below its level sides.
func near(self api.Cell, sides [6]api.Cell, unders ...api.Cell) api.Near {
	n := api.Near{Self: self, Sides: sides}
	copy(n.Unders[:], unders)
	return n
}

// positions is how many cells are near.
const positions = 11

// put is n with another cell: 0 itself, 1 to 6 the sides, 7 to 10 the unders.
func put(n api.Near, position int, c api.Cell) api.Near {
	switch {
	case position == 0:
		n.Self = c
	case position <= 6:
		n.Sides[position-1] = c
	default:
		n.Unders[position-7] = c
	}
	return n
}

// bases are what is near in some common cases, each of which hangs on other cells.
func bases() []api.Near {
	flat := [6]api.Cell{5: stone}
	return []api.Near{
		{},
		{Self: w(3)},
		near(w(0), flat, stone, stone, stone, stone),
		near(w(2), [6]api.Cell{1: w(1), 5: stone}, stone, stone, stone, stone),
		near(w(6), [6]api.Cell{w(6), w(5), w(6), w(7), air, bedrock}, stone, glass, air, stone),
		near(w(1), [6]api.Cell{torch, plant, fire, air, w(0), sand}, air, w(3), stone, air),
		near(w(7), [6]api.Cell{w(6), w(7), w(7), air, air, mover}, sand, sand, sand, air),
		near(w(4), [6]api.Cell{w(3), w(4), w(5), w(3), stone, w(1)}, stone, stone, w(0), torch),
		near(air, [6]api.Cell{w(5), w(4), w(5), w(6), air, air}, stone, stone, stone, stone),
	}
}

// eachCell goes through all cells that there are.
func eachCell(do func(c api.Cell)) {
	for kind := range 256 {
		for level := range 256 {
			do(api.Cell{Kind: uint8(kind), Level: uint8(level)})
		}
	}
}

// drawer makes nears that are the same in each run.
func drawer(seed uint64) *rand.Rand { return rand.New(rand.NewPCG(seed, 12)) }

func one[T any](r *rand.Rand, l []T) T { return l[r.IntN(len(l))] }

// mixtures are what nears are made of at random: a cell stands in a list as often as it is likely.
func mixtures() [][]api.Cell {
	return [][]api.Cell{
		someCells(),
		slices.Concat(waters, waters, waters, []api.Cell{stone, air}),
		slices.Concat(waters, slices.Repeat([]api.Cell{stone}, 8), soaked),
		{w(1), w(2), w(3), stone, stone, stone, air},
		{w(6), w(7), stone, stone, torch},
		{w(0), stone, air},
	}
}

// drawn is a near of cells of the list, its cell mostly Water.
func drawn(r *rand.Rand, l []api.Cell) api.Near {
	n := api.Near{Light: uint8(r.Uint32()), Draw: r.Uint64()}
	for position := range positions {
		n = put(n, position, one(r, l))
	}
	if r.IntN(4) > 0 {
		n.Self = one(r, waters)
	}
	return n
}

// manyNears goes through nears at random, of each mixture as many.
func manyNears(seed uint64, each int, do func(n api.Near)) {
	r := drawer(seed)
	for _, l := range mixtures() {
		for range each {
			do(drawn(r, l))
		}
	}
}

// P12.1, P12.2: all cells there are, at each position of each of the bases.
func TestEveryCell(t *testing.T) {
	for _, base := range bases() {
		for position := range positions {
			eachCell(func(c api.Cell) { both(t, put(base, position, c)) })
		}
	}
}

// P12.1, P12.2: some cells, at each two positions of each of the bases.
func TestEachTwo(t *testing.T) {
	for _, base := range bases() {
		for first := range positions {
			for second := range first {
				for _, c := range someCells() {
					for _, d := range someCells() {
						both(t, put(put(base, first, c), second, d))
					}
				}
			}
		}
	}
}

// P12.1, P12.2: all ways in which four level sides and their unders can be, of a few cells.
func TestLevelSidesTogether(t *testing.T) {
	sides, unders := []api.Cell{air, stone, w(2), w(7)}, []api.Cell{air, stone, w(4)}
	for code := range 4 * 4 * 4 * 4 * 3 * 3 * 3 * 3 {
		var n api.Near
		for dir := range 4 {
			n.Sides[dir], code = sides[code%4], code/4
		}
		for dir := range 4 {
			n.Unders[dir], code = unders[code%3], code/3
		}
		for _, self := range []api.Cell{w(0), w(3), w(7), air} {
			for _, below := range []api.Cell{air, stone, w(1)} {
				n.Self, n.Sides[5] = self, below
				both(t, n)
			}
		}
	}
}

// P12.1, P12.2: nears at random.
func TestManyNears(t *testing.T) {
	manyNears(1, 50000, func(n api.Near) { both(t, n) })
}

// P12.1: what each level side gives, over what holds, and that it gives nothing over what does not.
func TestWantOneSide(t *testing.T) {
	gives := []int{1, 2, 3, 4, 5, 6, 7, 0}
	for dir := range 4 {
		for level, want := range gives {
			n := api.Near{}
			n.Sides[dir] = w(uint8(level))
			for _, under := range slices.Concat(solid, wrong) {
				n.Unders[dir] = under
				wants(t, n, want)
			}
			for _, under := range slices.Concat(soaked, waters) {
				n.Unders[dir] = under
				wants(t, n, 0)
			}
		}
		for _, c := range slices.Concat(soaked, solid, wrong) {
			n := near(air, [6]api.Cell{}, stone, stone, stone, stone)
			n.Sides[dir] = c
			wants(t, n, 0)
		}
	}
}

// P12.1: the cell that is held by what stands below another side, or below the place itself, does not feed.
func TestWantOwnUnder(t *testing.T) {
	for dir := range 4 {
		n := near(air, [6]api.Cell{5: stone}, stone, stone, stone, stone)
		n.Sides[dir], n.Unders[dir] = w(1), air
		wants(t, n, 0)
		n = near(air, [6]api.Cell{5: air})
		n.Sides[dir], n.Unders[dir] = w(1), stone
		wants(t, n, 2)
	}
}

// P12.1: the least level of all that feed, also where one of a lesser level does not, in each order.
func TestWantLeast(t *testing.T) {
	for turn := range 4 {
		for _, x := range []struct {
			levels [4]uint8
			loose  int
			want   int
		}{
			{[4]uint8{4, 3, 6, 5}, -1, 4},
			{[4]uint8{4, 3, 6, 5}, 1, 5},
			{[4]uint8{7, 7, 6, 7}, -1, 7},
			{[4]uint8{7, 7, 6, 7}, 2, 0},
			{[4]uint8{7, 7, 7, 7}, -1, 0},
			{[4]uint8{0, 7, 7, 1}, 0, 2},
			{[4]uint8{2, 2, 2, 2}, 3, 3},
		} {
			var n api.Near
			for i, level := range x.levels {
				n.Sides[(i+turn)%4], n.Unders[(i+turn)%4] = w(level), stone
				if i == x.loose {
					n.Unders[(i+turn)%4] = air
				}
			}
			wants(t, n, x.want)
		}
	}
}

// P12.1: Water above, of each level, whatever the sides feed; nothing else above gives anything.
func TestWantAbove(t *testing.T) {
	feeding := near(air, [6]api.Cell{w(3), air, w(0), air, air, stone}, stone, stone, stone, stone)
	for _, c := range waters {
		wants(t, put(api.Near{}, 5, c), 1)
		wants(t, put(feeding, 5, c), 1)
		wants(t, put(near(air, [6]api.Cell{w(6), w(7)}, stone, stone), 5, c), 1)
	}
	for _, c := range slices.Concat(soaked, solid, wrong) {
		wants(t, put(api.Near{}, 5, c), 0)
		wants(t, put(near(air, [6]api.Cell{w(6), w(7)}, stone, stone), 5, c), 7)
	}
}

// P12.1: Water below feeds nothing, whatever stands there.
func TestWantBelow(t *testing.T) {
	for _, c := range someCells() {
		wants(t, put(near(air, [6]api.Cell{}, stone, stone, stone, stone), 6, c), 0)
		wants(t, put(near(air, [6]api.Cell{0: w(2)}, stone, stone, stone, stone), 6, c), 3)
	}
}

// P12.1: nothing near; and whatever the cell itself is.
func TestWantWhateverSelf(t *testing.T) {
	wants(t, api.Near{}, 0)
	eachCell(func(c api.Cell) {
		wants(t, api.Near{Self: c}, 0)
		wants(t, near(c, [6]api.Cell{4: w(7)}), 1)
		wants(t, near(c, [6]api.Cell{3: w(4)}, air, air, air, stone), 5)
		wants(t, near(c, [6]api.Cell{3: w(7)}, air, air, air, stone), 0)
	})
}

// P12.2: what is no Water does nothing, whatever is near.
func TestNextOfOthers(t *testing.T) {
	for _, base := range bases() {
		eachCell(func(c api.Cell) {
			if !wet(c) {
				does(t, put(base, 0, c))
			}
		})
	}
}

// P12.2: flowing water that wants nothing, or another level, is changed, and does not go on.
func TestNextWanting(t *testing.T) {
	for own := uint8(1); own <= 7; own++ {
		for _, below := range []api.Cell{air, stone, w(1), torch} {
			does(t, near(w(own), [6]api.Cell{5: below}), to(0, air))
			does(t, near(w(own), [6]api.Cell{w(7), w(7), w(7), w(7), stone, below}, stone, stone, stone, stone), to(0, air))
			for level := uint8(0); level < 7; level++ {
				if level+1 != own {
					does(t, near(w(own), [6]api.Cell{2: w(level), 5: below}, air, air, stone), to(0, w(level+1)))
				}
			}
			if own != 1 {
				does(t, near(w(own), [6]api.Cell{4: w(3), 5: below}), to(0, w(1)))
			}
		}
	}
}

// P12.2: a source goes on, whatever the place wants.
func TestNextSource(t *testing.T) {
	level := []api.Change{to(1, w(1)), to(2, w(1)), to(3, w(1)), to(4, w(1))}
	does(t, near(w(0), [6]api.Cell{5: stone}), level...)
	does(t, near(w(0), [6]api.Cell{4: w(0), 5: stone}), level...)
	does(t, near(w(0), [6]api.Cell{1: w(3), 5: stone}, air, stone), level[0], level[2], level[3])
	does(t, near(w(0), [6]api.Cell{1: w(7), 5: stone}, air, stone), level[0], level[2], level[3])
	does(t, api.Near{Self: w(0)}, to(6, w(1)))
	does(t, near(w(0), [6]api.Cell{w(0), w(0), w(0), w(0), w(0), w(0)}, stone, stone, stone, stone))
}

// settled is flowing water of that level, or a source, that wants its own level, with Air at the sides and Stone below them.
func settled(own uint8) api.Near {
	n := near(w(own), [6]api.Cell{5: stone}, stone, stone, stone, stone)
	if own > 0 {
		n.Sides[1] = w(own - 1)
	}
	return n
}

// P12.2: water that wants its own level goes down into what soaks, and not to the sides.
func TestNextDown(t *testing.T) {
	for own := range uint8(8) {
		for _, below := range soaked {
			does(t, put(settled(own), 6, below), to(6, w(1)))
		}
		for _, below := range waters {
			does(t, put(settled(own), 6, below))
		}
	}
}

// P12.2: on what holds it goes to the level sides that soak, one by one and together, in the order of the directions; at the level 7 no further.
func TestNextToSides(t *testing.T) {
	r := drawer(5)
	for own := range uint8(8) {
		for _, below := range slices.Concat(solid, wrong) {
			for _, side := range soaked {
				for open := range 16 {
					n := put(settled(own), 6, below)
					var want []api.Change
					for dir := range 4 {
						if own > 0 && dir == 1 {
							continue
						}
						n.Sides[dir] = one(r, slices.Concat(solid, wrong))
						if open>>dir&1 == 1 {
							n.Sides[dir] = side
							want = append(want, to(1+dir, w(own+1)))
						}
					}
					if own == 7 {
						want = nil
					}
					does(t, n, want...)
				}
			}
		}
	}
}

// P12.2: Water at the sides, of any level, is left as it is, and so is what stands above.
func TestNextPasses(t *testing.T) {
	for _, c := range waters {
		n := settled(2)
		n.Sides[2], n.Unders[2] = c, air
		does(t, n, to(1, w(3)), to(4, w(3)))
	}
	for _, c := range slices.Concat(soaked, solid, wrong) {
		does(t, put(settled(2), 5, c), to(1, w(3)), to(3, w(3)), to(4, w(3)))
	}
}

// R4: what is answered is new memory: a change of one answer does not change another one.
func TestNewMemory(t *testing.T) {
	for _, n := range bases() {
		first, second := Next(n), Next(n)
		room := first.Changes[:cap(first.Changes)]
		for i := range room {
			room[i] = to(99, w(99))
		}
		if !slices.Equal(second.Changes, done(n)) {
			t.Fatalf("Next(%v): a change of one answer made another one %v", n, second)
		}
		does(t, n, done(n)...)
	}
}

// R6: what is answered hangs on what is near alone, not on what was asked ahead of it.
func TestAgain(t *testing.T) {
	var all []api.Near
	manyNears(2, 500, func(n api.Near) { all = append(all, n) })
	for _, n := range slices.Backward(all) {
		both(t, n)
		both(t, all[0])
	}
}

// P12.3: light and draw change nothing.
func TestLightAndDraw(t *testing.T) {
	draws := []uint64{0, 1, 2, 3, 4, 5, 6, 7, 24, 1 << 32, math.MaxInt64, math.MaxUint64}
	ask := func(n api.Near) {
		for light := range 256 {
			n.Light = uint8(light)
			both(t, n)
		}
		for _, draw := range draws {
			n.Draw = draw
			both(t, n)
		}
	}
	for _, n := range bases() {
		ask(n)
	}
	manyNears(3, 200, ask)
}

// P12.3: only what soaks is changed, and the cell itself, but no source; each once; to Water or Air that may be.
func TestOnlyWhatSoaks(t *testing.T) {
	manyNears(4, 50000, func(n api.Near) {
		met := map[int]bool{}
		for _, x := range Next(n).Changes {
			itself := x.Dir == 0 && wet(n.Self) && n.Self.Level > 0
			beside := x.Dir >= 1 && x.Dir <= 6 && isSoaked(n.Sides[max(x.Dir-1, 0)])
			if met[x.Dir] || !itself && !beside || x.Cell != air && !wet(x.Cell) {
				t.Fatalf("Next(%v) makes the change %v", n, x)
			}
			met[x.Dir] = true
		}
	})
}

// The chapter's examples.
func TestExamples(t *testing.T) {
	level := func(own uint8, dirs ...int) []api.Change {
		var l []api.Change
		for _, dir := range dirs {
			l = append(l, to(1+dir, w(own)))
		}
		return l
	}
	for _, x := range []struct {
		n    api.Near
		want int
		next []api.Change
	}{
		{near(air, [6]api.Cell{0: w(3)}, stone), 4, nil},
		{near(air, [6]api.Cell{0: w(3)}, air), 0, nil},
		{near(air, [6]api.Cell{0: w(7)}, stone), 0, nil},
		{near(air, [6]api.Cell{4: w(5)}), 1, nil},
		{near(w(0), [6]api.Cell{5: stone}), 0, level(1, 0, 1, 2, 3)},
		{near(w(0), [6]api.Cell{5: air}), 0, level(1, 5)},
		{near(w(0), [6]api.Cell{5: w(1)}), 0, nil},
		{near(w(2), [6]api.Cell{1: w(0), 5: stone}, air, stone), 1, []api.Change{to(0, w(1))}},
		{near(w(2), [6]api.Cell{}), 0, []api.Change{to(0, air)}},
		{near(w(7), [6]api.Cell{4: w(0), 5: stone}), 1, []api.Change{to(0, w(1))}},
		{near(w(1), [6]api.Cell{0: stone, 2: torch, 4: w(0), 5: stone}), 1, level(2, 1, 2, 3)},
	} {
		wants(t, x.n, x.want)
		does(t, x.n, x.next...)
	}
}
