package land

import (
	"math"
	"slices"
	"testing"

	"bedrock/api"
	"bedrock/chunk"
	"bedrock/kind"
	"bedrock/pack"
	"bedrock/place"
)

// number is one of a place's or a spot's, and whether it is in its range.
type number struct {
	n  int
	in bool
}

// The document's ranges, written out anew: each end, what is next to it, what is next to a chunk's edge, the ends of int.
var (
	wides = []number{
		{math.MinInt, false}, {-1<<32 + 5, false}, {-1048577, false}, {-1048576, true}, {-1048575, true}, {-17, true}, {-16, true}, {-1, true},
		{0, true}, {5, true}, {15, true}, {16, true}, {1048574, true}, {1048575, true}, {1048576, false}, {1<<32 + 5, false}, {math.MaxInt, false},
	}
	spotWides = []number{
		{math.MinInt, false}, {-1<<32 + 5, false}, {-65537, false}, {-65536, true}, {-65535, true}, {-1, true},
		{0, true}, {9, true}, {65534, true}, {65535, true}, {65536, false}, {1<<32 + 5, false}, {math.MaxInt, false},
	}
	spotHighs = []number{
		{math.MinInt, false}, {-1 << 32, false}, {-2, false}, {-1, false}, {0, true}, {1, true}, {2, true}, {3, true},
		{4, false}, {5, false}, {1 << 32, false}, {math.MaxInt, false},
	}
	belowOrAbove = []int{math.MinInt, -1<<32 + 20, -1 << 32, -64, -17, -16, -2, -1, 64, 65, 80, 127, 128, 1 << 20, 1 << 32, 1<<32 + 5, math.MaxInt - 1, math.MaxInt}
)

// someSpots are one or more spots of each height, some of them the least and the greatest.
var someSpots = []api.Spot{
	spot(0, 0, 0), spot(-65536, 0, 65535), spot(0, 1, 0), spot(65535, 1, -65536), spot(3, 2, -9), spot(-65536, 2, -65536), spot(9, 3, 9), spot(65535, 3, 65535),
}

// noSpots are each one beyond, or far beyond, in one number or in all.
var noSpots = []api.Spot{
	spot(0, -1, 0), spot(0, 4, 0), spot(-65537, 0, 0), spot(65536, 0, 0), spot(0, 0, -65537), spot(0, 0, 65536),
	spot(0, math.MinInt, 0), spot(0, math.MaxInt, 0), spot(math.MinInt, 1, 0), spot(math.MaxInt, 1, 0), spot(0, 1, math.MinInt), spot(0, 1, math.MaxInt),
	spot(math.MinInt, math.MinInt, math.MinInt), spot(math.MaxInt, math.MaxInt, math.MaxInt), spot(1<<32, 1, 0), spot(0, 1<<32, 0), spot(0, 1, 1<<32),
}

func at(x, y, z int) api.Place { return api.Place{X: x, Y: y, Z: z} }

func spot(x, y, z int) api.Spot { return api.Spot{X: x, Y: y, Z: z} }

// wantCell is the land's cell at a Y of the world, by the document's words.
func wantCell(y int) api.Cell {
	if y == 0 {
		return api.Cell{Kind: 1}
	}
	if y <= 11 {
		return api.Cell{Kind: 2}
	}
	if y <= 15 {
		return api.Cell{Kind: 3}
	}
	return api.Cell{Kind: 0}
}

// wantLight is the land's light at a Y of the world, by the document's words.
func wantLight(y int) api.Light {
	if y >= 16 {
		return api.Light{Sky: 15, Lamp: 0}
	}
	return api.Light{}
}

// tells tells what Cell and Light answered, where it is another thing.
func tells(t *testing.T, p api.Place, cell api.Cell, light api.Light) {
	t.Helper()
	if got := Cell(p); got != cell {
		t.Errorf("Cell(%v) = %v, want %v", p, got, cell)
	}
	if got := Light(p); got != light {
		t.Errorf("Light(%v) = %v, want %v", p, got, light)
	}
}

// made is the land's chunk, of a spot.
func made(t *testing.T, s api.Spot) *api.Chunk {
	t.Helper()
	c, ok := Chunk(s)
	if c == nil || !ok {
		t.Fatalf("Chunk(%v) = %v, %t", s, c != nil, ok)
	}
	return c
}

// holds tells whether the chunk has the cells and lights of the spot's height, by the document's words, and no ticks.
func holds(t *testing.T, c *api.Chunk, s api.Spot) {
	t.Helper()
	for i := range 4096 {
		y := 16*s.Y + i/256
		if c.Cells[i] != wantCell(y) || c.Lights[i] != wantLight(y) {
			t.Fatalf("the chunk of %v has the cell %v and the light %v at %d", s, c.Cells[i], c.Lights[i], i)
		}
	}
	if len(c.Ticks) != 0 {
		t.Errorf("the chunk of %v has the ticks %v", s, c.Ticks)
	}
}

// is tells what Is answered, where it is another thing, and whether the chunk stayed as it was.
func is(t *testing.T, what string, c *api.Chunk, s api.Spot, want bool) {
	t.Helper()
	var before api.Chunk
	if c != nil {
		before = *c
		before.Ticks = slices.Clone(c.Ticks[:cap(c.Ticks)])
	}
	if got := Is(c, s); got != want {
		t.Errorf("%s: Is at %v = %t, want %t", what, s, got, want)
	}
	if c == nil {
		return
	}
	if c.Cells != before.Cells || c.Lights != before.Lights || !slices.Equal(c.Ticks[:cap(c.Ticks)], before.Ticks) {
		t.Errorf("%s: Is at %v has changed the chunk", what, s)
	}
}

// P8.1: each Y of the world, and beyond it, at X and Z within and beyond.
func TestCellAndLight(t *testing.T) {
	for _, x := range wides {
		for _, z := range wides {
			for y := range 64 {
				if x.in && z.in {
					tells(t, at(x.n, y, z.n), wantCell(y), wantLight(y))
				} else {
					tells(t, at(x.n, y, z.n), api.Cell{}, api.Light{})
				}
			}
			for _, y := range belowOrAbove {
				tells(t, at(x.n, y, z.n), api.Cell{}, api.Light{})
			}
		}
	}
}

// P8.1: the layers' edges, and how many cells of each kind a column has, written out.
func TestColumn(t *testing.T) {
	var kinds [15]int
	for y := range 64 {
		c := Cell(at(7, y, -7))
		if c.Level != 0 || c.Kind > 3 {
			t.Fatalf("Cell at Y %d = %v", y, c)
		}
		kinds[c.Kind]++
	}
	if want := [15]int{48, 1, 11, 4}; kinds != want {
		t.Errorf("the column has the kinds %v, want %v", kinds, want)
	}
	for y, k := range map[int]uint8{0: api.Bedrock, 1: api.Stone, 11: api.Stone, 12: api.Soil, 15: api.Soil, 16: api.Air, 63: api.Air} {
		if got := Cell(at(-1, y, 1)).Kind; got != k {
			t.Errorf("the kind at Y %d = %d, want %d", y, got, k)
		}
	}
}

// P8.1: the light is as the document's Words ask of any cells: 15 of a clear cell above which all are clear; none of an opaque one.
func TestLightIsAsItMustBe(t *testing.T) {
	open := true
	for y := 63; y >= 0; y-- {
		p := at(31, y, 31)
		clear := kind.Clear(Cell(p).Kind)
		open = open && clear
		if clear != open {
			t.Errorf("at Y %d there is a clear cell beneath an opaque one", y)
		}
		want := api.Light{}
		if open {
			want.Sky = 15
		}
		if got := Light(p); got != want || kind.Lamp(Cell(p)) != 0 {
			t.Errorf("Light(%v) = %v, want %v", p, got, want)
		}
	}
}

// P8.2: Chunk, Is of it, and Movable, at spots within and beyond.
func TestEachSpot(t *testing.T) {
	movable := [4]int{3840, 0, 0, 0}
	for _, x := range spotWides {
		for _, y := range spotHighs {
			for _, z := range spotWides {
				s := spot(x.n, y.n, z.n)
				if !x.in || !y.in || !z.in {
					if c, ok := Chunk(s); c != nil || ok || Movable(s) != 0 {
						t.Errorf("Chunk(%v) = %v, %t, Movable = %d", s, c != nil, ok, Movable(s))
					}
					continue
				}
				c := made(t, s)
				holds(t, c, s)
				is(t, "the land's own", c, s, true)
				if n := Movable(s); n != movable[s.Y] {
					t.Errorf("Movable(%v) = %d, want %d", s, n, movable[s.Y])
				}
			}
		}
	}
}

// P8.2: where there is no spot there is no chunk, nothing is the land's, and nothing movable.
func TestNoSpot(t *testing.T) {
	chunks := []*api.Chunk{nil, {}, chunk.New(), made(t, spot(0, 0, 0)), made(t, spot(0, 1, 0)), made(t, spot(0, 3, 0))}
	for _, s := range noSpots {
		if c, ok := Chunk(s); c != nil || ok {
			t.Errorf("Chunk(%v) = %v, %t", s, c != nil, ok)
		}
		for _, c := range chunks {
			is(t, "no spot", c, s, false)
		}
		if n := Movable(s); n != 0 {
			t.Errorf("Movable(%v) = %d", s, n)
		}
	}
}

// P8.2: the land's chunk may be.
func TestChunkMayBe(t *testing.T) {
	for _, s := range someSpots {
		if e := chunk.Check(made(t, s)); e != api.OK {
			t.Errorf("Check of the chunk of %v = %d", s, e)
		}
	}
}

// P8.2, R4: a new chunk each time; whatever is done to one, another one, and what all calls answer, stay.
func TestNewMemory(t *testing.T) {
	for _, s := range someSpots {
		c, d := made(t, s), made(t, s)
		if c == d {
			t.Fatalf("Chunk(%v) answers one chunk twice", s)
		}
		for i := range 4096 {
			c.Cells[i] = api.Cell{Kind: api.Torch, Level: 9}
			c.Lights[i] = api.Light{Sky: 3, Lamp: 9}
		}
		c.Ticks = append(c.Ticks, api.Tick{At: 7, Due: 7})
		holds(t, d, s)
		holds(t, made(t, s), s)
		is(t, "another one was changed", d, s, true)
		is(t, "changed", c, s, false)
		p, _ := place.Of(s, 0)
		tells(t, p, wantCell(p.Y), wantLight(p.Y))
		if n := Movable(s); n != chunk.Movable(d) {
			t.Errorf("Movable(%v) = %d", s, n)
		}
	}
}

// P8.2: nil is never the land's.
func TestIsNil(t *testing.T) {
	for _, s := range someSpots {
		is(t, "nil", nil, s, false)
	}
}

// P8.2, P8.3: the land's chunk is the land's at all spots of the same height; of those above the land at all of these heights; at no other.
func TestIsOfEachHeight(t *testing.T) {
	for _, from := range someSpots {
		c := made(t, from)
		for _, s := range someSpots {
			is(t, "the land's", c, s, (from.Y == 0) == (s.Y == 0))
		}
	}
	for _, c := range []*api.Chunk{chunk.New(), {}} {
		for _, s := range someSpots {
			is(t, "air without light", c, s, false)
		}
	}
}

// P8.3: chunks of one height are alike.
func TestOneHeight(t *testing.T) {
	var first [4]*api.Chunk
	for _, s := range someSpots {
		c := made(t, s)
		if first[s.Y] == nil {
			first[s.Y] = c
		}
		if !chunk.Same(c, first[s.Y]) {
			t.Errorf("the chunk of %v is another one than the first of its height", s)
		}
	}
	for y, c := range first {
		for z, d := range first {
			if chunk.Same(c, d) != (y == z || y > 0 && z > 0) {
				t.Errorf("the chunks of the heights %d and %d: Same = %t", y, z, chunk.Same(c, d))
			}
		}
	}
}

// P8.3: one cell's kind, its level, one Sky or one Lamp is another one: at each index by one, at some by whatever it may be.
func TestIsButOne(t *testing.T) {
	for _, s := range []api.Spot{spot(0, 0, 0), spot(-65536, 1, 65535), spot(4, 2, 4), spot(65535, 3, 0)} {
		c := made(t, s)
		for i := range 4096 {
			isButOne(t, c, s, i, 1)
		}
		for _, i := range []int{0, 3071, 4095} {
			for by := 1; by < 256; by++ {
				isButOne(t, c, s, i, uint8(by))
			}
		}
		is(t, "all back", c, s, true)
	}
}

// isButOne changes each number at the index by so much, one by one, and back again.
func isButOne(t *testing.T, c *api.Chunk, s api.Spot, i int, by uint8) {
	t.Helper()
	for _, n := range []*uint8{&c.Cells[i].Kind, &c.Cells[i].Level, &c.Lights[i].Sky, &c.Lights[i].Lamp} {
		*n += by
		if Is(c, s) {
			t.Errorf("Is at %v with another number at %d by %d", s, i, by)
		}
		*n -= by
	}
}

// P8.3: more is another one than a single number, be it such as may be or not.
func TestIsOfSeveralChanges(t *testing.T) {
	for what, change := range map[string]func(c *api.Chunk){
		"a cell that may not be":  func(c *api.Chunk) { c.Cells[9] = api.Cell{Kind: 255, Level: 255} },
		"a light that may not be": func(c *api.Chunk) { c.Lights[9] = api.Light{Sky: 255, Lamp: 255} },
		"a cell, and its light": func(c *api.Chunk) {
			c.Cells[4095], c.Lights[4095] = api.Cell{Kind: api.Torch, Level: 9}, api.Light{Sky: 15, Lamp: 9}
		},
		"cells, lights and a tick": func(c *api.Chunk) {
			c.Cells[9].Kind, c.Lights[9].Sky, c.Ticks = api.Sand, 1, []api.Tick{{At: 9, Due: 9}}
		},
		"all cells": func(c *api.Chunk) {
			for i := range c.Cells {
				c.Cells[i].Kind = api.Glass
			}
		},
		"all lamps": func(c *api.Chunk) {
			for i := range c.Lights {
				c.Lights[i].Lamp = 15
			}
		},
	} {
		for _, s := range someSpots {
			c := made(t, s)
			change(c)
			is(t, what, c, s, false)
		}
	}
}

// P8.3: what a chunk has is the land's, but not where the land has it.
func TestIsOfOthersParts(t *testing.T) {
	ground, air := made(t, spot(0, 0, 0)), made(t, spot(0, 1, 0))
	mixed := &api.Chunk{Cells: ground.Cells, Lights: air.Lights}
	other := &api.Chunk{Cells: air.Cells, Lights: ground.Lights}
	swapped := made(t, spot(0, 0, 0))
	swapped.Cells[0], swapped.Cells[4095] = swapped.Cells[4095], swapped.Cells[0]
	lower := made(t, spot(0, 0, 0))
	copy(lower.Cells[:3840], ground.Cells[256:])
	for _, s := range someSpots {
		for what, c := range map[string]*api.Chunk{
			"the ground's cells, the air's lights": mixed, "the air's cells, the ground's lights": other,
			"two cells for each other": swapped, "one lower": lower,
		} {
			is(t, what, c, s, false)
		}
	}
}

// P8.3: a chunk with ticks, be they such as may be or not, is not the land's; one without is, whatever list says so.
func TestIsWithTicks(t *testing.T) {
	some := []api.Tick{{At: 0, Due: 1}}
	all := make([]api.Tick, 4096)
	for i := range all {
		all[i] = api.Tick{At: i, Due: 5}
	}
	for _, s := range someSpots {
		c := made(t, s)
		for _, l := range [][]api.Tick{nil, {}, some[:0], all[:0]} {
			c.Ticks = l
			is(t, "no ticks", c, s, true)
		}
		for _, l := range [][]api.Tick{
			some, all, all[4095:], {{At: 2048, Due: 1 << 41}}, {{At: 1, Due: 1}, {At: 2, Due: 2}},
			{{}}, {{At: -1, Due: 1}}, {{At: 4096, Due: 1}}, {{At: 3, Due: -1}}, {{At: math.MinInt, Due: math.MaxInt64}},
		} {
			c.Ticks = l
			is(t, "ticks", c, s, false)
		}
	}
}

// P8.2: how many cells are movable, held against a count by chapter 1.
func TestMovable(t *testing.T) {
	for _, s := range someSpots {
		n := 0
		for _, cell := range made(t, s).Cells {
			if kind.Movable(cell.Kind) {
				n++
			}
		}
		if got := Movable(s); got != n {
			t.Errorf("Movable(%v) = %d, want %d", s, got, n)
		}
	}
}

// P8.3: what the chunk has at an index is what its place has, by chapter 2.
func TestChunkHasWhatPlacesHave(t *testing.T) {
	for _, s := range someSpots {
		c := made(t, s)
		for i := range 4096 {
			p, ok := place.Of(s, i)
			if !ok || c.Cells[i] != Cell(p) || c.Lights[i] != Light(p) {
				t.Fatalf("the chunk of %v has %v and %v at %d, the place %v has %v and %v", s, c.Cells[i], c.Lights[i], i, p, Cell(p), Light(p))
			}
		}
	}
}

// P8.3: what a place has is what the chunk of its spot has at its index.
func TestPlacesHaveWhatChunksHave(t *testing.T) {
	for _, x := range wides {
		for _, z := range []int{-1048576, -1, 0, 1048575} {
			for y := 0; y < 64; y += 3 {
				p := at(x.n, y, z)
				s, ok := place.Spot(p)
				i, _ := place.Index(p)
				if !ok {
					continue
				}
				c := made(t, s)
				tells(t, p, c.Cells[i], c.Lights[i])
			}
		}
	}
}

// The chapter's examples.
func TestExamples(t *testing.T) {
	for y, want := range map[int]uint8{0: api.Bedrock, 11: api.Stone, 12: api.Soil, 16: api.Air, 64: api.Air} {
		if got := Cell(at(5, y, 5)); got != (api.Cell{Kind: want}) {
			t.Errorf("Cell(5 %d 5) = %v, want the kind %d", y, got, want)
		}
	}
	for y, want := range map[int]api.Light{15: {}, 16: {Sky: 15}, 64: {}} {
		if got := Light(at(0, y, 0)); got != want {
			t.Errorf("Light(0 %d 0) = %v, want %v", y, got, want)
		}
	}
	if a, b, c := Movable(spot(3, 0, -9)), Movable(spot(3, 1, -9)), Movable(spot(0, 4, 0)); a != 3840 || b != 0 || c != 0 {
		t.Errorf("Movable = %d, %d, %d, want 3840, 0, 0", a, b, c)
	}
	if c, ok := Chunk(spot(0, 4, 0)); c != nil || ok {
		t.Errorf("Chunk(0 4 0) = %v, %t", c != nil, ok)
	}
	is(t, "nil", nil, spot(0, 0, 0), false)
	is(t, "the chunk of 0 1 0", made(t, spot(0, 1, 0)), spot(9, 3, 9), true)
	is(t, "the chunk of 0 1 0", made(t, spot(0, 1, 0)), spot(0, 0, 0), false)
}

// The document's seventh example of the whole.
func TestLandPacked(t *testing.T) {
	if b, e := pack.Put(made(t, spot(0, 1, 0))); len(b) != 10 || e != api.OK {
		t.Errorf("the land's chunk at the height 1 is %d bytes, error %d", len(b), e)
	}
}
