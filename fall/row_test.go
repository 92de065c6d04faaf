package fall

import (
	"slices"
	"testing"

	"bedrock/api"
)

// The answers of Row that are errors.
const (
	none = api.Errno(5)
	keep = api.Errno(12)
)

// pushed is what is answered of a row, by the document's words.
func pushed(cells []api.Cell) (int, api.Errno) {
	n := 0
	for n < len(cells) && isMoved(cells[n]) {
		n++
	}
	if n == 0 {
		return 0, none
	}
	if n > 8 || n == len(cells) || !isYielding(cells[n]) {
		return 0, keep
	}
	return n, api.OK
}

// pushes tells what Row answered, where it is another thing.
func pushes(t *testing.T, want int, e api.Errno, cells ...api.Cell) {
	t.Helper()
	if n, got := Row(cells); n != want || got != e {
		t.Fatalf("Row(%v) = %d, %d, want %d, %d", cells, n, got, want, e)
	}
}

// row holds Row against the document's words.
func row(t *testing.T, cells ...api.Cell) {
	t.Helper()
	n, e := pushed(cells)
	pushes(t, n, e, cells...)
}

// P13.3: no cells.
func TestRowOfNothing(t *testing.T) {
	pushes(t, 0, none)
	if n, e := Row([]api.Cell{}); n != 0 || e != none {
		t.Errorf("Row of an empty list = %d, %d", n, e)
	}
}

// P13.3: all cells there are as the first one: alone, and with others behind.
func TestRowOfEveryFirst(t *testing.T) {
	eachCell(func(c api.Cell) {
		alone, n, e := none, 0, none
		if isMoved(c) {
			alone, n, e = keep, 1, api.OK
		}
		pushes(t, 0, alone, c)
		pushes(t, n, e, c, air)
		pushes(t, n, e, c, water, stone, bedrock)
		pushes(t, 0, alone, c, mover, air)
		row(t, c, stone, air)
		row(t, append([]api.Cell{c}, slices.Repeat([]api.Cell{stone}, 9)...)...)
	})
}

// behind is what is answered of so many movable cells, ahead of one that yields.
func behind(n int) (int, api.Errno) {
	if n > 8 {
		return 0, keep
	}
	return n, api.OK
}

// P13.3: from one to ten movable cells, with each that yields behind them, and with each that does not, and is not movable; with nothing.
func TestRowOfEveryNumber(t *testing.T) {
	r := drawer(21)
	for n := 1; n <= 10; n++ {
		for range 20 {
			cells := drawn(r, n, moved)
			pushes(t, 0, keep, cells...)
			for _, c := range yielding() {
				want, e := behind(n)
				pushes(t, want, e, append(cells, c)...)
				pushes(t, want, e, append(append(cells, c), drawn(r, 5, someCells())...)...)
			}
			for _, c := range firm {
				pushes(t, 0, keep, append(cells, c)...)
				pushes(t, 0, keep, append(cells, c, air)...)
			}
		}
	}
}

// P13.3: from one to ten movable cells with all cells there are behind them, or among them.
func TestRowOfEveryCell(t *testing.T) {
	r := drawer(22)
	for n := 1; n <= 10; n++ {
		cells := drawn(r, n, moved)
		eachCell(func(c api.Cell) {
			row(t, append(cells, c)...)
			row(t, append(cells, c, air)...)
			row(t, append(cells, c, mover)...)
			other := append(slices.Clone(cells), air)
			other[r.IntN(n)] = c
			row(t, other...)
		})
	}
}

// P13.3: just eight go on, just nine do not, of each movable cell; nor does any greater number.
func TestRowOfEightAndNine(t *testing.T) {
	for _, c := range moved {
		eight := slices.Repeat([]api.Cell{c}, 8)
		for _, last := range yielding() {
			pushes(t, 8, api.OK, append(eight, last)...)
			pushes(t, 0, keep, append(eight, c, last)...)
		}
		pushes(t, 0, keep, eight...)
		pushes(t, 0, keep, append(eight, c)...)
		for n := 9; n < 300; n++ {
			pushes(t, 0, keep, append(slices.Repeat([]api.Cell{c}, n), air)...)
		}
	}
}

// P13.3: all rows of a few cells, up to more than can be pushed.
func TestRowOfAllShort(t *testing.T) {
	allLists([]api.Cell{stone, air, bedrock}, 11, func(l []api.Cell) { row(t, l...) })
	allLists([]api.Cell{sand, glass, {Kind: 2, Level: 1}, water, {Kind: 11}, mover}, 6, func(l []api.Cell) { row(t, l...) })
}

// P13.3: rows at random, of cells that are mostly movable.
func TestRowOfMany(t *testing.T) {
	r := drawer(23)
	from := slices.Concat(slices.Repeat(moved, 20), someCells())
	for range 200000 {
		row(t, drawn(r, r.IntN(20), from)...)
	}
}

// P13.5: behind nine movable cells nothing changes the answer, nor does it matter whether there is anything.
func TestRowBeyondNine(t *testing.T) {
	r := drawer(24)
	for range 2000 {
		nine := drawn(r, 9, moved)
		pushes(t, 0, keep, nine...)
		for range 10 {
			pushes(t, 0, keep, append(nine, drawn(r, r.IntN(12), someCells())...)...)
		}
	}
	nine := drawn(r, 9, moved)
	eachCell(func(c api.Cell) { pushes(t, 0, keep, append(nine, c)...) })
}

// P13.5: behind the first cell that is not movable nothing changes the answer, nor does it matter whether there is anything.
func TestRowBeyondTheFirstFirm(t *testing.T) {
	r := drawer(25)
	ends := slices.Concat(yielding(), firm)
	for range 5000 {
		for n := range 9 {
			upTo := append(drawn(r, n, moved), one(r, ends))
			want, e := Row(upTo)
			for range 5 {
				pushes(t, want, e, append(upTo, drawn(r, r.IntN(12), someCells())...)...)
			}
		}
	}
}

// P13.5: what is pushed is movable, from one cell to eight, and ends at a cell that yields.
func TestRowGoesOn(t *testing.T) {
	r := drawer(26)
	from := slices.Concat(slices.Repeat(moved, 10), someCells())
	var met [9]int
	for range 100000 {
		cells := drawn(r, r.IntN(16), from)
		n, e := Row(cells)
		if e != api.OK {
			continue
		}
		if n < 1 || n > 8 || n >= len(cells) || slices.ContainsFunc(cells[:n], func(c api.Cell) bool { return !isMoved(c) }) || !isYielding(cells[n]) {
			t.Fatalf("Row(%v) = %d", cells, n)
		}
		met[n]++
	}
	if slices.Contains(met[1:], 0) {
		t.Errorf("of some number no row went on: %v", met)
	}
}

// P13.6: the cells of a list, and those beyond its length, stay as they are.
func TestNothingIsChanged(t *testing.T) {
	r := drawer(27)
	from := slices.Concat(falling, moved, yielding(), someCells())
	for range 20000 {
		all := drawn(r, 30, from)
		if r.IntN(2) == 0 {
			copy(all, slices.Concat(drawn(r, 1, falling), drawn(r, r.IntN(12), moved)))
		}
		before := slices.Clone(all)
		part := all[:r.IntN(31)]
		Lands(part)
		Row(part)
		if !slices.Equal(all, before) {
			t.Fatalf("the cells %v are %v behind the calls, of %d of them", before, all, len(part))
		}
	}
}

// P13.6: what stands beyond a list's length is not looked at.
func TestBeyondTheLength(t *testing.T) {
	for n := range 12 {
		stones := append(slices.Repeat([]api.Cell{stone}, n), air)
		want, e := pushed(stones[:n])
		pushes(t, want, e, stones[:n]...)
		airs := append([]api.Cell{sand}, slices.Repeat([]api.Cell{air}, n+5)...)
		comesDown(t, n, airs[:n+1]...)
	}
}

// P13.6, R1: no call panics, whatever is handed in; great lists come to an end.
func TestNoPanic(t *testing.T) {
	r := drawer(28)
	for range 20000 {
		cells := make([]api.Cell, r.IntN(25))
		for i := range cells {
			cells[i] = api.Cell{Kind: uint8(r.Uint32()), Level: uint8(r.Uint32())}
		}
		lands(t, cells...)
		row(t, cells...)
	}
	const many = 1 << 22
	great := slices.Repeat([]api.Cell{air}, many)
	great[0] = sand
	comesDown(t, many-1, great...)
	pushes(t, 1, api.OK, great...)
	pushes(t, 0, keep, slices.Repeat([]api.Cell{stone}, many)...)
}

// The chapter's examples of Row, and the document's example of the whole.
func TestRowExamples(t *testing.T) {
	eight := slices.Repeat([]api.Cell{stone}, 8)
	pushes(t, 2, api.OK, stone, sand, air)
	pushes(t, 1, api.OK, stone, water)
	pushes(t, 0, keep, glass)
	pushes(t, 0, none, air)
	pushes(t, 0, none)
	pushes(t, 0, none, bedrock)
	pushes(t, 8, api.OK, append(eight, air)...)
	pushes(t, 0, keep, append(eight, stone, air)...)
	pushes(t, 0, keep, stone, mover)
	pushes(t, 0, keep, stone, bedrock, air)
	pushes(t, 2, api.OK, stone, stone, air)
}
