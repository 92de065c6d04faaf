package flood

import (
	"math/rand/v2"
	"slices"
	"testing"

	"bedrock/api"
)

// The cells that worlds are made of, by their numbers in the document.
var (
	air     = api.Cell{Kind: 0}
	bedrock = api.Cell{Kind: 1}
	stone   = api.Cell{Kind: 2}
	soil    = api.Cell{Kind: 3}
	sand    = api.Cell{Kind: 4}
	glass   = api.Cell{Kind: 9}
	plant   = api.Cell{Kind: 12, Level: 3}
	water   = api.Cell{Kind: 13, Level: 3}
	fire    = api.Cell{Kind: 14}
	ember   = api.Cell{Kind: 14, Level: 1}
)

func torch(level uint8) api.Cell { return api.Cell{Kind: 11, Level: level} }

func lit(sky, lamp uint8) api.Light { return api.Light{Sky: sky, Lamp: lamp} }

func at(x, y, z int) api.Place { return api.Place{X: x, Y: y, Z: z} }

// torches are those of each level.
func torches() []api.Cell {
	var l []api.Cell
	for level := uint8(1); level <= 15; level++ {
		l = append(l, torch(level))
	}
	return l
}

// wrong are cells that may not be, those of kinds that are clear, or lamps, among them.
var wrong = []api.Cell{
	{Kind: 0, Level: 1}, {Kind: 0, Level: 255}, {Kind: 2, Level: 1}, {Kind: 9, Level: 1}, {Kind: 11, Level: 0}, {Kind: 11, Level: 16}, {Kind: 11, Level: 255},
	{Kind: 12, Level: 4}, {Kind: 13, Level: 8}, {Kind: 14, Level: 2}, {Kind: 15}, {Kind: 15, Level: 5}, {Kind: 255, Level: 255},
}

// sorts are cells of all sorts: clear and opaque ones, lamps of each level, some that may not be.
func sorts() []api.Cell {
	return slices.Concat([]api.Cell{air, stone, glass, water, plant, bedrock, sand, fire, ember}, torches(), wrong)
}

// isClear tells whether light goes through the cell: it may be, and its kind is clear, by the document's table.
func isClear(c api.Cell) bool {
	switch c.Kind {
	case 0, 9:
		return c.Level == 0
	case 11:
		return c.Level >= 1 && c.Level <= 15
	case 12:
		return c.Level <= 3
	case 13:
		return c.Level <= 7
	case 14:
		return c.Level <= 1
	}
	return false
}

// ownLamp is the cell's own lamp, by the document's words.
func ownLamp(c api.Cell) uint8 {
	switch {
	case isClear(c) && c.Kind == 11:
		return c.Level
	case isClear(c) && c.Kind == 14:
		return 10
	}
	return 0
}

// isPlace tells whether it is a place, by the document's words.
func isPlace(p api.Place) bool {
	const wide = 1 << 20
	return p.X >= -wide && p.X < wide && p.Z >= -wide && p.Z < wide && p.Y >= 0 && p.Y < 64
}

func apart(a, b int) int { return max(a, b) - min(a, b) }

// landCell is the land at that height.
func landCell(y int) api.Cell {
	switch {
	case y == 0:
		return bedrock
	case y < 12:
		return stone
	case y < 16:
		return soil
	}
	return air
}

// told is a call of Lit.
type told struct {
	p api.Place
	l api.Light
}

// diary writes down what a field is asked and told, and tells what it ought not to be.
type diary struct {
	t     *testing.T
	asked []api.Place
	told  []told
}

func (d *diary) ask(what string, p api.Place) {
	if !isPlace(p) {
		d.t.Errorf("%s is asked of %v, which is no place", what, p)
	}
	d.asked = append(d.asked, p)
}

func (d *diary) tell(p api.Place, l api.Light) {
	d.ask("Lit", p)
	if l.Sky > 15 || l.Lamp > 15 {
		d.t.Errorf("Lit is told %v of %v", l, p)
	}
	d.told = append(d.told, told{p, l})
}

func (d *diary) Put(p api.Place, c api.Cell)      { d.t.Errorf("Put is called: %v %v", p, c) }
func (d *diary) Wake(p api.Place, due int64)      { d.t.Errorf("Wake is called: %v %d", p, due) }
func (d *diary) Drop(p api.Place)                 { d.t.Errorf("Drop is called: %v", p) }
func (d *diary) Due(p api.Place) int64            { d.t.Errorf("Due is called: %v", p); return 0 }
func (d *diary) Ready(api.Spot, int64) []api.Tick { d.t.Errorf("Ready is called"); return nil }

// world is a field: the cells and lights of all places above a rectangle. What lies beyond is Bedrock, or the land, as if nothing there ever became another light.
type world struct {
	diary
	least      api.Place
	wide, deep int
	land       bool
	cells      []api.Cell
	lights     []api.Light
}

const high = 64

// newWorld is a world of the cells that the function tells, by how far they lie from the least corner. Its light is right.
func newWorld(t *testing.T, least api.Place, wide, deep int, land bool, cell func(x, y, z int) api.Cell) *world {
	w := &world{diary: diary{t: t}, least: least, wide: wide, deep: deep, land: land}
	for y := range high {
		for z := range deep {
			for x := range wide {
				w.cells = append(w.cells, cell(x, y, z))
			}
		}
	}
	w.lights = w.account()
	return w
}

// copied is the same world once more, with a diary of its own.
func (w *world) copied() *world {
	c := *w
	c.diary = diary{t: w.t}
	c.cells, c.lights = slices.Clone(w.cells), slices.Clone(w.lights)
	return &c
}

// place is the one so far from the least corner.
func (w *world) place(x, y, z int) api.Place { return at(w.least.X+x, y, w.least.Z+z) }

// number tells where a place's cell stands, and whether it is not beyond.
func (w *world) number(p api.Place) (int, bool) {
	x, z := p.X-w.least.X, p.Z-w.least.Z
	if x < 0 || x >= w.wide || z < 0 || z >= w.deep || p.Y < 0 || p.Y >= high {
		return 0, false
	}
	return (p.Y*w.deep+z)*w.wide + x, true
}

func (w *world) beyond(p api.Place) (api.Cell, api.Light) {
	switch {
	case !w.land:
		return bedrock, api.Light{}
	case isClear(landCell(p.Y)):
		return landCell(p.Y), lit(15, 0)
	}
	return landCell(p.Y), api.Light{}
}

func (w *world) Cell(p api.Place) api.Cell {
	w.ask("Cell", p)
	return w.cell(p)
}

func (w *world) cell(p api.Place) api.Cell {
	if i, ok := w.number(p); ok {
		return w.cells[i]
	}
	c, _ := w.beyond(p)
	return c
}

func (w *world) Light(p api.Place) api.Light {
	w.ask("Light", p)
	return w.light(p)
}

func (w *world) light(p api.Place) api.Light {
	if i, ok := w.number(p); ok {
		return w.lights[i]
	}
	_, l := w.beyond(p)
	return l
}

func (w *world) Lit(p api.Place, l api.Light) {
	w.tell(p, l)
	if i, ok := w.number(p); ok {
		w.lights[i] = l
		return
	}
	w.t.Errorf("Lit is told %v of %v, where no light becomes another one", l, p)
}

// account tells the light of each of the world's cells from scratch: each cell is asked for its light again and again, until nothing changes any more. Round the cells lies a rim of what is beyond.
func (w *world) account() []api.Light {
	row := w.wide + 2
	layer := row * (w.deep + 2)
	number := func(x, y, z int) int { return (y+1)*layer + (z+1)*row + x + 1 }
	size := layer * (high + 2)
	clear, sky, lamp := make([]bool, size), make([]uint8, size), make([]uint8, size)
	for x := -1; x <= w.wide; x++ {
		for z := -1; z <= w.deep; z++ {
			open := true
			for y := high - 1; y >= 0; y-- {
				p, i := w.place(x, y, z), number(x, y, z)
				if _, ok := w.number(p); !ok {
					if _, l := w.beyond(p); isPlace(p) {
						sky[i], lamp[i] = l.Sky, l.Lamp
					}
					continue
				}
				clear[i] = isClear(w.cell(p))
				open = open && clear[i]
				if open {
					sky[i] = 15
				}
				lamp[i] = ownLamp(w.cell(p))
			}
		}
	}
	settle(clear, sky, row, layer)
	settle(clear, lamp, row, layer)
	lights := make([]api.Light, 0, len(w.cells))
	for y := range high {
		for z := range w.deep {
			for x := range w.wide {
				i := number(x, y, z)
				lights = append(lights, lit(sky[i], lamp[i]))
			}
		}
	}
	return lights
}

func settle(clear []bool, light []uint8, row, layer int) {
	ask := func(i int) bool {
		if !clear[i] {
			return false
		}
		best := max(light[i-1], light[i+1], light[i-row], light[i+row], light[i-layer], light[i+layer])
		if best <= light[i]+1 {
			return false
		}
		light[i] = best - 1
		return true
	}
	for again := true; again; {
		again = false
		for i := range light {
			again = ask(i) || again
		}
		for i := len(light) - 1; i >= 0; i-- {
			again = ask(i) || again
		}
	}
}

// others tells, in order, the places that have another light in the second list, with that.
func (w *world) others(before, now []api.Light) []told {
	var l []told
	for x := range w.wide {
		for z := range w.deep {
			for y := range high {
				p := w.place(x, y, z)
				if i, _ := w.number(p); before[i] != now[i] {
					l = append(l, told{p, now[i]})
				}
			}
		}
	}
	return l
}

// put makes the cell at p another one, without a word on light, and tells which one was there.
func (w *world) put(p api.Place, c api.Cell) api.Cell {
	i, ok := w.number(p)
	if !ok {
		w.t.Fatalf("%v is beyond", p)
	}
	old := w.cells[i]
	w.cells[i] = c
	return old
}

// sources tells of each height above and below p whether the cell there is a sky source.
func (w *world) sources(p api.Place) [high]bool {
	var l [high]bool
	for y := high - 1; y >= 0 && isClear(w.cell(at(p.X, y, p.Z))); y-- {
		l[y] = true
	}
	return l
}

// steps tells how far each height above and below p is from the nearest place there where light may come or go: p, or what is a sky source one time and not the other one.
func (w *world) steps(p api.Place, old api.Cell) [high]int {
	now := w.sources(p)
	c := w.put(p, old)
	before := w.sources(p)
	w.put(p, c)
	var l [high]int
	for y := range high {
		l[y] = apart(y, p.Y)
		for other := range high {
			if before[other] != now[other] {
				l[y] = min(l[y], apart(y, other))
			}
		}
	}
	return l
}

// stays tells what was asked of too far away.
func (w *world) stays(p api.Place, old api.Cell) {
	w.t.Helper()
	steps := w.steps(p, old)
	for _, q := range w.asked {
		if !isPlace(q) || apart(q.X, p.X)+apart(q.Z, p.Z)+steps[q.Y] > 15 {
			w.t.Fatalf("%v becomes %v at %v: the field is asked of %v", old, w.cell(p), p, q)
		}
	}
}

// change makes the cell at p another one, calls Change, and holds what it does and answers against the account. It tells how many lights became other ones.
func (w *world) change(p api.Place, c api.Cell) int {
	w.t.Helper()
	old := w.put(p, c)
	before := slices.Clone(w.lights)
	w.asked, w.told = nil, nil
	n := Change(w, p, old)
	now := w.account()
	want := w.others(before, now)
	if n != len(want) {
		w.t.Fatalf("%v becomes %v at %v: Change answers %d, want %d", old, c, p, n, len(want))
	}
	if !slices.Equal(w.told, want) {
		w.t.Fatalf("%v becomes %v at %v: Lit is told %v, want %v", old, c, p, w.told[:min(len(w.told), 20)], want[:min(len(want), 20)])
	}
	if !slices.Equal(w.lights, now) {
		w.t.Fatalf("%v becomes %v at %v: the light behind it is not right", old, c, p)
	}
	w.stays(p, old)
	return n
}

// draw makes worlds and changes that are the same in each run.
func draw(seed uint64) *rand.Rand { return rand.New(rand.NewPCG(seed, 11)) }

func one[T any](r *rand.Rand, l []T) T { return l[r.IntN(len(l))] }
