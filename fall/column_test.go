package fall

import (
	"math/rand/v2"
	"slices"
	"testing"

	"bedrock/api"
)

// landed is how far the first cell comes down, by the document's words.
func landed(cells []api.Cell) int {
	if len(cells) == 0 || !isFalling(cells[0]) {
		return 0
	}
	stop := slices.IndexFunc(cells[1:], func(c api.Cell) bool { return !isYielding(c) })
	if stop < 0 {
		return len(cells) - 1
	}
	return stop
}

// comesDown tells what Lands answered, where it is another thing.
func comesDown(t *testing.T, want int, cells ...api.Cell) {
	t.Helper()
	if got := Lands(cells); got != want {
		t.Fatalf("Lands(%v) = %d, want %d", cells, got, want)
	}
}

// lands holds Lands against the document's words.
func lands(t *testing.T, cells ...api.Cell) {
	t.Helper()
	comesDown(t, landed(cells), cells...)
}

// allLists goes through all lists of these cells, of each length up to the greatest.
func allLists(from []api.Cell, longest int, do func(l []api.Cell)) {
	var grow func(l []api.Cell)
	grow = func(l []api.Cell) {
		do(l)
		for _, c := range from {
			if len(l) < longest {
				grow(append(slices.Clip(l), c))
			}
		}
	}
	grow(nil)
}

// P13.2: no cells.
func TestLandsOfNothing(t *testing.T) {
	comesDown(t, 0)
	if n := Lands([]api.Cell{}); n != 0 {
		t.Errorf("Lands of an empty list = %d, want 0", n)
	}
}

// P13.2: all cells there are as the first one, alone and with cells behind that yield.
func TestLandsOfEveryFirst(t *testing.T) {
	eachCell(func(c api.Cell) {
		want := 0
		if isFalling(c) {
			want = 3
		}
		comesDown(t, 0, c)
		comesDown(t, want, c, air, water, fire)
		comesDown(t, want, c, torch, plant, air, stone, air)
		comesDown(t, 0, c, stone)
	})
}

// P13.2: all cells there are behind a first one that falls: at once, between others, one behind the other.
func TestLandsOnEveryCell(t *testing.T) {
	eachCell(func(c api.Cell) {
		for _, first := range falling {
			lands(t, first, c)
			lands(t, first, c, air, c)
			lands(t, first, air, plant, c)
			lands(t, first, water, c, c, c, fire, stone)
			lands(t, first, first, c)
		}
	})
}

// P13.2: columns of each length up to three hundred; the first cell that does not yield at each place, or none; what stands behind it changes nothing.
func TestLandsOfEveryLength(t *testing.T) {
	r := drawer(11)
	yields, holds, all := yielding(), slices.Concat(moved, firm), someCells()
	for length := range 301 {
		for stop := range length + 1 {
			column := append([]api.Cell{one(r, falling)}, drawn(r, length, yields)...)
			if stop < length {
				column[1+stop] = one(r, holds)
			}
			comesDown(t, stop, column...)
			if stop < length {
				copy(column[2+stop:], drawn(r, length, all))
				comesDown(t, stop, column...)
				comesDown(t, stop, column[:2+stop]...)
			}
		}
	}
}

// P13.2: a long column of one cell, of each that yields and of each that does not.
func TestLandsOfOneCell(t *testing.T) {
	for _, c := range someCells() {
		want := 0
		if isYielding(c) {
			want = 5000
		}
		for _, first := range falling {
			comesDown(t, want, append([]api.Cell{first}, slices.Repeat([]api.Cell{c}, 5000)...)...)
		}
	}
}

// P13.2: all short columns of a few cells.
func TestLandsOfAllShort(t *testing.T) {
	allLists([]api.Cell{sand, air, water, stone, {Kind: 13, Level: 8}}, 7, func(l []api.Cell) { lands(t, l...) })
}

// P13.2: columns at random, of cells that mostly yield.
func TestLandsOfMany(t *testing.T) {
	r := drawer(12)
	from := slices.Concat(yielding(), yielding(), someCells())
	for range 100000 {
		lands(t, drawn(r, r.IntN(30), from)...)
		lands(t, append([]api.Cell{one(r, falling)}, drawn(r, r.IntN(30), from)...)...)
	}
}

// The chapter's examples of Lands.
func TestLandsExamples(t *testing.T) {
	comesDown(t, 3, sand, air, fire, water, soil)
	comesDown(t, 0, sand, stone)
	comesDown(t, 0, stone, air)
	comesDown(t, 0)
}

// nearIn is what is near the cell of a column: below its end is no place, which is Bedrock; what stands around it is at random.
func nearIn(r *rand.Rand, column []api.Cell, at int) api.Near {
	n := anything(r)
	n.Self, n.Sides[5] = column[at], bedrock
	if at > 0 {
		n.Sides[4] = column[at-1]
	}
	if at+1 < len(column) {
		n.Sides[5] = column[at+1]
	}
	return n
}

// step does what Next tells of the cell at a place of the column, and tells whether it told anything.
func step(t *testing.T, r *rand.Rand, column []api.Cell, at int) bool {
	t.Helper()
	changes := Next(nearIn(r, column, at)).Changes
	for _, x := range changes {
		switch x.Dir {
		case 0:
			column[at] = x.Cell
		case 6:
			column[at+1] = x.Cell
		default:
			t.Fatalf("the cell at %d of %v changes what is at its side %d", at, column, x.Dir-1)
		}
	}
	return len(changes) > 0
}

// stepDown does what Next tells of the cell at a place of the column, and of where it comes to, till it tells nothing, and tells how many steps that was.
func stepDown(t *testing.T, r *rand.Rand, column []api.Cell, at int) (n int) {
	t.Helper()
	for step(t, r, column, at+n) {
		n++
	}
	return n
}

// afterwards is the column behind the fall of the cell at a place of it, by the document's words.
func afterwards(column []api.Cell, at int) []api.Cell {
	n := landed(column[at:])
	then := slices.Clone(column)
	for i := range n {
		then[at+i] = air
	}
	then[at+n] = column[at]
	return then
}

// comes lets the cell at a place of the column fall, step by step.
func comes(t *testing.T, r *rand.Rand, column []api.Cell, at int) {
	t.Helper()
	before := slices.Clone(column)
	want := Lands(column[at:])
	n := stepDown(t, r, column, at)
	if n != want || !slices.Equal(column, afterwards(before, at)) {
		t.Fatalf("the cell at %d of %v comes down by %d steps to %v; Lands tells %d", at, before, n, column, want)
	}
}

// P13.4: columns at random, each of whose cells is let fall, from each place on.
func TestStepByStep(t *testing.T) {
	r := drawer(13)
	from := slices.Concat(yielding(), yielding(), falling, falling, someCells())
	for range 20000 {
		column := drawn(r, 1+r.IntN(20), from)
		for at := range column {
			comes(t, r, slices.Clone(column), at)
		}
	}
}

// P13.4: long columns, from end to end and as far as one cell that does not yield.
func TestStepByStepFar(t *testing.T) {
	r := drawer(14)
	for length := range 200 {
		column := append([]api.Cell{one(r, falling)}, drawn(r, length, yielding())...)
		comes(t, r, slices.Clone(column), 0)
		column[length] = one(r, falling)
		comes(t, r, column, 0)
	}
}

// P13.4: a cell that falls over each pair of cells.
func TestStepByStepOverPairs(t *testing.T) {
	r := drawer(15)
	for _, a := range someCells() {
		for _, b := range someCells() {
			for _, first := range falling {
				comes(t, r, []api.Cell{b, first, a, b, stone}, 1)
				comes(t, r, []api.Cell{first, a, b}, 0)
			}
		}
	}
}

// P13.4: of a pair of cells that fall, one above the other, the lower one falls first; then the upper one comes to lie on it.
func TestStepByStepPairAbove(t *testing.T) {
	r := drawer(16)
	for length := range 30 {
		for _, upper := range falling {
			for _, lower := range falling {
				column := append([]api.Cell{upper, lower}, drawn(r, length, yielding())...)
				if step(t, r, column, 0) {
					t.Fatalf("%v falls into %v", upper, lower)
				}
				comes(t, r, column, 1)
				comes(t, r, column, 0)
				want := append(slices.Repeat([]api.Cell{air}, length), upper, lower)
				if !slices.Equal(column, want) {
					t.Fatalf("the pair ends as %v, want %v", column, want)
				}
			}
		}
	}
}

// P13.4: of a pair of columns side by side, whose cells fall step about, each is as if it stood alone.
func TestStepByStepPairBeside(t *testing.T) {
	r := drawer(17)
	from := slices.Concat(yielding(), yielding(), yielding(), moved)
	for range 5000 {
		var pair, want [2][]api.Cell
		for i := range pair {
			pair[i] = append([]api.Cell{one(r, falling)}, drawn(r, 15, from)...)
			want[i] = afterwards(pair[i], 0)
		}
		var at [2]int
		for more := true; more; {
			more = false
			for i := range pair {
				if step(t, r, pair[i], at[i]) {
					at[i]++
					more = true
				}
			}
		}
		if !slices.Equal(pair[0], want[0]) || !slices.Equal(pair[1], want[1]) {
			t.Fatalf("the pair ends as %v, want %v", pair, want)
		}
	}
}

// The document's example of the whole: Sand at Y 20 over the land is at Y 16 behind four steps.
func TestSandOverTheLand(t *testing.T) {
	r := drawer(18)
	column := []api.Cell{sand, air, air, air, air, soil, soil, stone, bedrock}
	for n := range 4 {
		if !step(t, r, column, n) {
			t.Fatalf("it stays behind %d steps", n)
		}
	}
	want := []api.Cell{air, air, air, air, sand, soil, soil, stone, bedrock}
	if step(t, r, column, 4) || !slices.Equal(column, want) {
		t.Errorf("the column is %v, want %v", column, want)
	}
}
