package react

import (
	"math"
	"math/rand/v2"
	"slices"
	"testing"

	"bedrock/api"
)

// dirs are the numbers from which changes have theirs: such as are none are among them.
var dirs = []int{0, 1, 2, 3, 4, 5, 6, 7, 8, 12, 255, 256, 257, 262, -1, -2, -6, -250, 1 << 32, 1<<32 + 1, math.MaxInt, math.MaxInt - 1, math.MinInt, math.MinInt + 1}

// cellAt is the cell itself, or a side, by a change's Dir.
func cellAt(n api.Near, dir int) api.Cell {
	if dir == 0 {
		return n.Self
	}
	return n.Sides[dir-1]
}

// done is what Behind answers, by the document's words: of each Dir from 0 to 6 the last change stands.
func done(n api.Near, d api.Deed) api.Near {
	after := n
	for dir := range 7 {
		c := cellAt(n, dir)
		for i := len(d.Changes) - 1; i >= 0; i-- {
			if d.Changes[i].Dir == dir {
				c = d.Changes[i].Cell
				break
			}
		}
		after = put(after, dir, c)
	}
	return after
}

// more is what Delta answers, by the document's words.
func more(n api.Near, d api.Deed) (count int) {
	after := done(n, d)
	for dir := range 7 {
		if moved.has(cellAt(after, dir)) {
			count++
		}
		if moved.has(cellAt(n, dir)) {
			count--
		}
	}
	return count
}

// follows holds Behind and Delta against the document's words.
func follows(t *testing.T, n api.Near, d api.Deed) {
	if got, want := Behind(n, d), done(n, d); got != want {
		t.Helper()
		t.Fatalf("Behind(%v, %v) = %v, want %v", n, d, got, want)
	}
	if got, want := Delta(n, d), more(n, d); got != want {
		t.Helper()
		t.Fatalf("Delta(%v, %v) = %d, want %d", n, d, got, want)
	}
}

// anyDeed is a deed at random, of so many changes.
func anyDeed(r *rand.Rand, changes int, from []api.Cell) api.Deed {
	d := api.Deed{Again: r.IntN(9) - 2, Delta: r.IntN(99) - 50}
	for range changes {
		dir := r.IntN(7)
		if r.IntN(4) == 0 {
			dir = one(r, dirs)
		}
		d.Changes = append(d.Changes, to(dir, one(r, from)))
	}
	return d
}

// anyNear is a near at random, of all that there is.
func anyNear(r *rand.Rand) api.Near {
	n := api.Near{Light: uint8(r.Uint32()), Draw: r.Uint64()}
	for position := range positions {
		n = put(n, position, api.Cell{Kind: uint8(r.Uint32()), Level: uint8(r.Uint32())})
	}
	return n
}

// P15.3: without a change all stays, a list of none being as no list; Again and Delta change nothing.
func TestBehindNothing(t *testing.T) {
	r := drawer(11)
	for range 20000 {
		n := anything(r, someCells())
		if r.IntN(2) == 0 {
			n = anyNear(r)
		}
		for _, d := range []api.Deed{{}, {Changes: []api.Change{}}, {Again: 3, Delta: -1}, {Again: math.MinInt, Delta: math.MaxInt}, {Changes: make([]api.Change, 0, 9), Delta: 7}} {
			if Behind(n, d) != n || Delta(n, d) != 0 {
				t.Fatalf("of %v and %v: %v, Delta %d", n, d, Behind(n, d), Delta(n, d))
			}
		}
	}
}

// P15.3: cells of every kind and of every level, put at each Dir, and taken from there.
func TestBehindEveryCell(t *testing.T) {
	all := bases()
	for _, base := range []api.Near{all[0], all[4], all[15], all[19]} {
		for dir := range 7 {
			eachCell(func(c api.Cell) {
				follows(t, base, does(0, 0, to(dir, c)))
				follows(t, put(base, dir, c), does(0, 0, to(dir, air)))
				follows(t, put(base, dir, c), does(0, 0, to(dir, stone)))
			})
		}
	}
}

// P15.3: some cells, put where some cells are.
func TestBehindEachTwo(t *testing.T) {
	for _, old := range someCells() {
		for _, c := range someCells() {
			for dir := range 7 {
				n := put(api.Near{Self: sand, Sides: [6]api.Cell{glass, air, wood, water(1), torch(2), ash}}, dir, old)
				d := does(0, 0, to(dir, c))
				if Behind(n, d) != put(n, dir, c) {
					t.Fatalf("Behind(%v, %v) = %v", n, d, Behind(n, d))
				}
				want := 0
				if moved.has(c) {
					want++
				}
				if moved.has(old) {
					want--
				}
				if got := Delta(n, d); got != want {
					t.Fatalf("Delta(%v, %v) = %d, want %d", n, d, got, want)
				}
			}
		}
	}
}

// P15.3: changes of each Dir below 0 and above 6 are passed over, alone and between others.
func TestBehindOtherDirs(t *testing.T) {
	others := slices.DeleteFunc(slices.Clone(dirs), func(dir int) bool { return dir >= 0 && dir <= 6 })
	for dir := range 300 {
		others = append(others, 7+dir, -1-dir)
	}
	for shift := range 60 {
		for dir := range 7 {
			others = append(others, 8<<shift+dir, -8<<shift+dir)
		}
	}
	for _, n := range bases() {
		for _, dir := range others {
			for _, c := range []api.Cell{stone, air, {Kind: 2, Level: 1}} {
				d := does(0, 0, to(dir, c))
				if Behind(n, d) != n || Delta(n, d) != 0 {
					t.Fatalf("of %v and %v: %v, Delta %d", n, d, Behind(n, d), Delta(n, d))
				}
				d.Changes = []api.Change{to(2, glass), to(dir, c), to(0, c)}
				if want := put(put(n, 2, glass), 0, c); Behind(n, d) != want {
					t.Fatalf("Behind(%v, %v) = %v, want %v", n, d, Behind(n, d), want)
				}
				follows(t, n, d)
			}
		}
	}
}

// P15.3: of a Dir that comes twice, or more often, the last change stands.
func TestBehindTwice(t *testing.T) {
	for dir := range 7 {
		for _, first := range someCells() {
			for _, last := range someCells() {
				n := api.Near{Self: wood, Sides: [6]api.Cell{soil, air, fire(1), wood, {Kind: 3, Level: 1}, leaves}}
				d := does(0, 0, to(dir, first), to(dir, last))
				if got := Behind(n, d); got != put(n, dir, last) {
					t.Fatalf("Behind(%v, %v) = %v", n, d, got)
				}
				follows(t, n, d)
				follows(t, n, does(0, 0, to(dir, last), to((dir+1)%7, first), to(dir, first), to((dir+1)%7, air)))
			}
		}
	}
}

// P15.3: all of them changed at once, by rising and by falling Dirs.
func TestBehindAll(t *testing.T) {
	var up, down []api.Change
	for dir := range 7 {
		up = append(up, to(dir, stone))
		down = append(down, to(6-dir, stone))
	}
	for _, l := range [][]api.Change{up, down} {
		if got := Delta(api.Near{}, does(0, 0, l...)); got != 7 {
			t.Errorf("seven more are movable, but Delta = %d", got)
		}
	}
	full := Behind(api.Near{Light: 3, Draw: 4, Unders: [4]api.Cell{wood, air, fire(0), sand}}, does(0, 0, up...))
	if want := (api.Near{Self: stone, Sides: [6]api.Cell{stone, stone, stone, stone, stone, stone}, Light: 3, Draw: 4, Unders: [4]api.Cell{wood, air, fire(0), sand}}); full != want {
		t.Errorf("Behind = %v, want %v", full, want)
	}
	for i := range up {
		up[i].Cell = air
	}
	if got := Delta(full, does(0, 0, up...)); got != -7 {
		t.Errorf("seven fewer are movable, but Delta = %d", got)
	}
}

// P15.3: one, several, and more than seven changes, at random, of nears at random.
func TestBehindOfManyDeeds(t *testing.T) {
	r := drawer(12)
	for _, from := range append(mixtures(), slices.Concat([]api.Cell{air, stone, sand, glass}, wrong)) {
		for changes := range 20 {
			for range 2000 {
				follows(t, anything(r, from), anyDeed(r, changes, from))
			}
		}
	}
}

// P15.3: many changes: each of them counts, up to the last one.
func TestBehindManyChanges(t *testing.T) {
	r := drawer(13)
	for _, changes := range []int{255, 256, 257, 65535, 65537, 300000} {
		d := anyDeed(r, changes, someCells())
		d.Changes = append(d.Changes, to(4, stone))
		follows(t, anything(r, someCells()), d)
	}
}

// P15.3: what Next tells of a near is one of the deeds, too.
func TestBehindNext(t *testing.T) {
	manyNears(14, 10000, func(n api.Near) { follows(t, n, Next(n)) })
}

// The chapter's examples.
func TestExamples(t *testing.T) {
	for k, want := range map[uint8]int{4: 1, 8: 1, 13: 2, 14: 3, 12: 5, 2: 0, 200: 0} {
		if got := Delay(k); got != want {
			t.Errorf("Delay(%d) = %d, want %d", k, got, want)
		}
	}
	over := func(self, below api.Cell) api.Near { return api.Near{Self: self, Sides: [6]api.Cell{5: below}} }
	fell := does(0, 0, to(6, sand), to(0, air))
	nextIs(t, over(sand, air), fell)
	nextIs(t, over(water(0), stone), does(0, 0, to(1, water(1)), to(2, water(1)), to(3, water(1)), to(4, water(1))))
	nextIs(t, api.Near{Self: fire(0)}, does(0, 0, to(0, air)))
	nextIs(t, over(plant(1), stone), does(0, 0, to(0, air)))
	nextIs(t, over(stone, air), does(0, 0))
	if got := Behind(over(sand, air), fell); got != over(air, sand) {
		t.Errorf("behind the fall of sand there is %v", got)
	}
	beside := api.Near{Self: fire(0), Sides: [6]api.Cell{wood}}
	if got := Delta(beside, does(3, 0, to(1, fire(1)))); got != -1 {
		t.Errorf("wood is set on fire: Delta = %d", got)
	}
	if got := Delta(api.Near{Self: fire(1)}, does(0, 0, to(0, ash))); got != 1 {
		t.Errorf("fire of wood becomes ash: Delta = %d", got)
	}
	for _, n := range bases() {
		if got := Delta(n, does(0, 5, to(7, stone))); got != 0 {
			t.Errorf("Dir 7 of %v: Delta = %d", n, got)
		}
	}
}
