package fall

import (
	"math"
	"math/rand/v2"
	"slices"
	"testing"

	"bedrock/api"
)

// The cells that places are made of, by their numbers in the document.
var (
	air     = api.Cell{Kind: 0}
	bedrock = api.Cell{Kind: 1}
	stone   = api.Cell{Kind: 2}
	soil    = api.Cell{Kind: 3}
	sand    = api.Cell{Kind: 4}
	gravel  = api.Cell{Kind: 5}
	wood    = api.Cell{Kind: 6}
	leaves  = api.Cell{Kind: 7}
	ash     = api.Cell{Kind: 8}
	glass   = api.Cell{Kind: 9}
	mover   = api.Cell{Kind: 10}
	torch   = api.Cell{Kind: 11, Level: 7}
	plant   = api.Cell{Kind: 12, Level: 3}
	water   = api.Cell{Kind: 13, Level: 5}
	fire    = api.Cell{Kind: 14, Level: 1}
)

// falling are the cells that fall.
var falling = []api.Cell{sand, gravel, ash}

// moved are the cells that are movable.
var moved = []api.Cell{stone, soil, sand, gravel, wood, leaves, ash, glass}

// firm are cells that neither yield nor are movable: such as may not be are among them.
var firm = append([]api.Cell{bedrock, mover}, wrong...)

// wrong are cells that may not be: of each kind of the table, of none.
var wrong = []api.Cell{
	{Kind: 0, Level: 1}, {Kind: 0, Level: 255}, {Kind: 1, Level: 1}, {Kind: 2, Level: 1}, {Kind: 3, Level: 9}, {Kind: 4, Level: 1}, {Kind: 5, Level: 2},
	{Kind: 6, Level: 255}, {Kind: 7, Level: 1}, {Kind: 8, Level: 128}, {Kind: 9, Level: 1}, {Kind: 10, Level: 3}, {Kind: 11}, {Kind: 11, Level: 16},
	{Kind: 12, Level: 4}, {Kind: 13, Level: 8}, {Kind: 14, Level: 2}, {Kind: 15}, {Kind: 15, Level: 7}, {Kind: 20}, {Kind: 30, Level: 1}, {Kind: 132}, {Kind: 255, Level: 255},
}

// yielding are the cells that yield, of each level.
func yielding() []api.Cell {
	l := []api.Cell{air}
	for _, x := range []struct{ kind, least, most uint8 }{{11, 1, 15}, {12, 0, 3}, {13, 0, 7}, {14, 0, 1}} {
		for level := x.least; level <= x.most; level++ {
			l = append(l, api.Cell{Kind: x.kind, Level: level})
		}
	}
	return l
}

// someCells are all of these.
func someCells() []api.Cell { return slices.Concat(yielding(), moved, firm) }

// isFalling tells whether the cell falls, by the document's table.
func isFalling(c api.Cell) bool { return (c.Kind == 4 || c.Kind == 5 || c.Kind == 8) && c.Level == 0 }

// isMoved tells whether the cell is movable, by the document's table.
func isMoved(c api.Cell) bool { return c.Kind >= 2 && c.Kind <= 9 && c.Level == 0 }

// isYielding tells whether the cell yields, by the document's table.
func isYielding(c api.Cell) bool {
	switch c.Kind {
	case 0:
		return c.Level == 0
	case 11:
		return c.Level >= 1 && c.Level <= 15
	case 12:
		return c.Level <= 3
	case 13:
		return c.Level <= 7
	case 14:
		return c.Level <= 1
	}
	return false
}

// eachCell goes through all cells that there are.
func eachCell(do func(c api.Cell)) { eachLevel(256, do) }

// eachLevel goes through the first kinds' cells, with all levels that there are.
func eachLevel(kinds int, do func(c api.Cell)) {
	for kind := range kinds {
		for level := range 256 {
			do(api.Cell{Kind: uint8(kind), Level: uint8(level)})
		}
	}
}

// drawer makes cells that are the same in each run.
func drawer(seed uint64) *rand.Rand { return rand.New(rand.NewPCG(seed, 13)) }

func one[T any](r *rand.Rand, l []T) T { return l[r.IntN(len(l))] }

// drawn is a list of cells out of the list at random.
func drawn(r *rand.Rand, length int, from []api.Cell) []api.Cell {
	l := make([]api.Cell, length)
	for i := range l {
		l[i] = one(r, from)
	}
	return l
}

// anything is a near at random, of cells that may be and cells that may not.
func anything(r *rand.Rand) api.Near {
	l := drawn(r, 11, someCells())
	return api.Near{Self: l[0], Sides: [6]api.Cell(l[1:7]), Unders: [4]api.Cell(l[7:]), Light: uint8(r.Uint32()), Draw: r.Uint64()}
}

// over is a cell above another one, all else near being Air.
func over(self, below api.Cell) api.Near { return api.Near{Self: self, Sides: [6]api.Cell{5: below}} }

// done is what is changed, by the document's words.
func done(n api.Near) []api.Change {
	if !isFalling(n.Self) || !isYielding(n.Sides[5]) {
		return nil
	}
	return []api.Change{{Dir: 6, Cell: n.Self}, {Dir: 0, Cell: air}}
}

// does tells what Next answered, where it is another thing. (Helper takes longer than all else here: it is called just where something is told.)
func does(t *testing.T, n api.Near, want []api.Change) {
	d := Next(n)
	if !slices.Equal(d.Changes, want) || d.Again != 0 || d.Delta != 0 {
		t.Helper()
		t.Fatalf("Next(%v) = %v, want the changes %v alone", n, d, want)
	}
}

// next holds Next against the document's words.
func next(t *testing.T, n api.Near) { does(t, n, done(n)) }

// P13.1: the cells of each kind of the table, and of some that are none, with all levels, each over each.
func TestEachOverEach(t *testing.T) {
	const kinds = 20
	eachLevel(kinds, func(c api.Cell) {
		eachLevel(kinds, func(d api.Cell) { next(t, over(c, d)) })
	})
}

// P13.1: all cells there are, over some, and below them.
func TestEveryCell(t *testing.T) {
	eachCell(func(c api.Cell) {
		for _, d := range someCells() {
			next(t, over(c, d))
			next(t, over(d, c))
		}
	})
}

// P13.1: what falls changes its place with nothing: it stands below as it was, and leaves Air.
func TestNextOfWhatFalls(t *testing.T) {
	for _, c := range falling {
		for _, below := range yielding() {
			does(t, over(c, below), []api.Change{{Dir: 6, Cell: c}, {Dir: 0, Cell: air}})
		}
		for _, below := range slices.Concat(moved, firm) {
			does(t, over(c, below), nil)
		}
	}
}

// P13.1: what does not fall stays, whatever is below, and so does what may not be.
func TestNextOfOthers(t *testing.T) {
	for _, c := range someCells() {
		if slices.Contains(falling, c) {
			continue
		}
		for _, below := range someCells() {
			does(t, over(c, below), nil)
		}
	}
}

// bases are what is near in some cases that are told apart.
func bases() []api.Near {
	r := drawer(1)
	l := []api.Near{{}, over(sand, air), over(gravel, water), over(ash, fire), over(sand, stone), over(stone, air), over(ash, bedrock)}
	for range 5 {
		n := anything(r)
		n.Self, n.Sides[5] = one(r, falling), one(r, yielding())
		l = append(l, n, anything(r))
	}
	return l
}

// P13.1: the other sides, and the cells below these, change nothing, whatever they are.
func TestNextElsewhere(t *testing.T) {
	for _, base := range bases() {
		want := done(base)
		eachCell(func(c api.Cell) {
			for dir := range 5 {
				n := base
				n.Sides[dir] = c
				does(t, n, want)
			}
			for dir := range 4 {
				n := base
				n.Unders[dir] = c
				does(t, n, want)
			}
		})
	}
}

// P13.1: light and draw change nothing.
func TestNextLightAndDraw(t *testing.T) {
	for _, n := range bases() {
		want := done(n)
		for light := range 256 {
			n.Light = uint8(light)
			does(t, n, want)
		}
		for _, draw := range []uint64{0, 1, 2, 3, 4, 5, 6, 7, 24, 1 << 32, math.MaxInt64, math.MaxUint64} {
			n.Draw = draw
			does(t, n, want)
		}
	}
}

// P13.1: all that is near being at random.
func TestNextManyNears(t *testing.T) {
	r := drawer(2)
	for range 200000 {
		n := anything(r)
		next(t, n)
		n.Self = one(r, falling)
		next(t, n)
	}
}

// P13.6: what is answered is new memory: a change of one answer changes none of another.
func TestNextNewMemory(t *testing.T) {
	for _, n := range bases() {
		first, second := Next(n), Next(n)
		room := first.Changes[:cap(first.Changes)]
		for i := range room {
			room[i] = api.Change{Dir: 99, Cell: stone}
		}
		if !slices.Equal(second.Changes, done(n)) {
			t.Fatalf("Next(%v): a change of one answer made another one %v", n, second)
		}
		_ = append(second.Changes, api.Change{Dir: 98})
		next(t, n)
	}
}

// R6: what is answered hangs on what is near alone, not on what was asked ahead of it.
func TestNextAgain(t *testing.T) {
	r := drawer(3)
	all := bases()
	for range 1000 {
		all = append(all, anything(r))
	}
	for _, n := range slices.Backward(all) {
		next(t, n)
		next(t, all[1])
	}
}

// The chapter's examples of Next.
func TestNextExamples(t *testing.T) {
	does(t, over(sand, air), []api.Change{{Dir: 6, Cell: sand}, {Dir: 0, Cell: air}})
	does(t, over(sand, water), []api.Change{{Dir: 6, Cell: sand}, {Dir: 0, Cell: air}})
	does(t, over(sand, stone), nil)
	does(t, over(stone, air), nil)
}
