package chunk

import (
	"math"
	"slices"
	"testing"

	"bedrock/api"
	"bedrock/kind"
)

// someIndexes are the first, the last, those next to them, and some in the midst.
var someIndexes = []int{0, 1, 15, 16, 255, 256, 2047, 2048, 4094, 4095}

// ticks are ticks, each told by its At and its Due.
func ticks(told ...[2]int64) []api.Tick {
	var l []api.Tick
	for _, x := range told {
		l = append(l, api.Tick{At: int(x[0]), Due: x[1]})
	}
	return l
}

// everywhere are ticks at all indexes.
func everywhere(due int64) []api.Tick {
	var l []api.Tick
	for at := range 4096 {
		l = append(l, api.Tick{At: at, Due: due})
	}
	return l
}

// filled is a chunk of all cells that may be and all lights, in turns, with these ticks.
func filled(l []api.Tick) *api.Chunk {
	cells := cellsThat(true)
	c := &api.Chunk{Ticks: l}
	for i := range c.Cells {
		c.Cells[i] = cells[i%len(cells)]
		c.Lights[i] = api.Light{Sky: uint8(i % 16), Lamp: uint8(i / 16 % 16)}
	}
	return c
}

// wild is a chunk of cells, lights and ticks that may not be.
func wild() *api.Chunk {
	c := &api.Chunk{Ticks: ticks([2]int64{4096, 0}, [2]int64{7, -5}, [2]int64{-1, math.MaxInt64}, [2]int64{7, 9}, [2]int64{math.MinInt64, math.MinInt64})}
	for i := range c.Cells {
		c.Cells[i] = api.Cell{Kind: uint8(i), Level: uint8(i / 256)}
		c.Lights[i] = api.Light{Sky: uint8(i / 3), Lamp: uint8(i / 7)}
	}
	return c
}

// cellsThat are all cells that may be, or all that may not.
func cellsThat(may bool) []api.Cell {
	var l []api.Cell
	for k := range 256 {
		for level := range 256 {
			if c := (api.Cell{Kind: uint8(k), Level: uint8(level)}); kind.May(c) == may {
				l = append(l, c)
			}
		}
	}
	return l
}

// record is what a chunk was like, with the list of ticks that it had, and what stood in that list and in the room behind it.
type record struct {
	cells  [4096]api.Cell
	lights [4096]api.Light
	list   []api.Tick
	stood  []api.Tick
}

func recorded(c *api.Chunk) record {
	return record{c.Cells, c.Lights, c.Ticks, slices.Clone(c.Ticks[:cap(c.Ticks)])}
}

// cellsStay tells that the chunk's cells and lights are as they were, and what is in the list that it had, too.
func (r *record) cellsStay(t *testing.T, what string, c *api.Chunk) {
	t.Helper()
	if c.Cells != r.cells || c.Lights != r.lights {
		t.Errorf("%s: cells or lights have changed", what)
	}
	if !slices.Equal(r.list[:cap(r.list)], r.stood) {
		t.Errorf("%s: the list that was there, or the room behind it, has changed", what)
	}
}

// stays tells that all of the chunk is as it was.
func (r *record) stays(t *testing.T, what string, c *api.Chunk) {
	t.Helper()
	r.cellsStay(t, what, c)
	if !slices.Equal(c.Ticks, r.list) {
		t.Errorf("%s: the ticks are %v, want %v", what, c.Ticks, r.list)
	}
}

// roomy is the list, with room behind it in which there are others.
func roomy(l []api.Tick) []api.Tick {
	return slices.Concat(l, ticks([2]int64{77, 77}, [2]int64{78, 78}, [2]int64{79, 79}))[:len(l)]
}

// overwrite turns all of the list over, and the room behind it.
func overwrite(l []api.Tick) {
	l = l[:cap(l)]
	for i := range l {
		l[i] = api.Tick{At: ^l[i].At, Due: ^l[i].Due}
	}
}

// checks tells what Check answered, where it is another error.
func checks(t *testing.T, what string, c *api.Chunk, want api.Errno) {
	t.Helper()
	if e := Check(c); e != want {
		t.Errorf("%s: Check = %d, want %d", what, e, want)
	}
}

// P7.1: New.
func TestNew(t *testing.T) {
	c, d := New(), New()
	for _, x := range []*api.Chunk{c, d} {
		if x == nil {
			t.Fatal("New = nil")
		}
		for i := range 4096 {
			if x.Cells[i] != (api.Cell{Kind: api.Air}) || x.Lights[i] != (api.Light{}) {
				t.Fatalf("New has the cell %v and the light %v at %d", x.Cells[i], x.Lights[i], i)
			}
		}
		if len(x.Ticks) != 0 {
			t.Errorf("New has the ticks %v", x.Ticks)
		}
	}
	if c == d {
		t.Fatal("New answers one chunk twice")
	}
	c.Cells[9].Kind, c.Lights[9].Sky, c.Ticks = api.Stone, 4, ticks([2]int64{1, 1})
	Wake(c, 5, 5)
	for _, x := range []*api.Chunk{d, New()} {
		if x.Cells[9].Kind != api.Air || x.Lights[9].Sky != 0 || len(x.Ticks) != 0 {
			t.Error("a new chunk has changed with another one")
		}
	}
}

// P7.1: chunks that may be, and nil.
func TestCheck(t *testing.T) {
	checks(t, "nil", nil, api.ErrNil)
	for what, l := range map[string][]api.Tick{
		"no ticks":                  nil,
		"an empty list":             {},
		"due at 1":                  ticks([2]int64{0, 1}),
		"due at 2^41":               ticks([2]int64{0, 1 << 41}),
		"at the last index":         ticks([2]int64{4095, 7}),
		"at the first and the last": ticks([2]int64{0, 9}, [2]int64{4095, 2}),
		"next to each other":        ticks([2]int64{6, 9}, [2]int64{7, 2}, [2]int64{8, 9}),
		"at all indexes":            everywhere(1 << 41),
	} {
		checks(t, what, filled(l), api.OK)
		checks(t, what, &api.Chunk{Ticks: l}, api.OK)
	}
}

// P7.1: a cell that may not be, and one that may, of each kind and level, at some index or other.
func TestCheckCells(t *testing.T) {
	c := New()
	for i, cell := range append(cellsThat(false), api.Cell{Kind: api.Torch, Level: 16}, api.Cell{Kind: 15}, api.Cell{Kind: 255, Level: 255}) {
		at := i % 4096
		c.Cells[at] = cell
		checks(t, "a cell that may not be", c, api.ErrKind)
		c.Cells[at] = api.Cell{}
	}
	for i, cell := range cellsThat(true) {
		c.Cells[i*97%4096] = cell
		checks(t, "a cell that may be", c, api.OK)
	}
	c = filled(everywhere(3))
	for at := range 4096 {
		was := c.Cells[at]
		for _, cell := range []api.Cell{{Kind: 15}, {Kind: 255}, {Kind: api.Torch}, {Kind: api.Torch, Level: 16}, {Kind: api.Water, Level: 8}, {Kind: api.Air, Level: 1}} {
			c.Cells[at] = cell
			checks(t, "a cell that may not be, at any index", c, api.ErrKind)
		}
		c.Cells[at] = was
	}
	checks(t, "all may be", c, api.OK)
}

// P7.1: a Sky or a Lamp above 15.
func TestCheckLights(t *testing.T) {
	c := filled(everywhere(3))
	for at := range 4096 {
		was := c.Lights[at]
		for _, light := range []api.Light{{Sky: 16}, {Lamp: 16}, {Sky: 255}, {Lamp: 255}, {Sky: 15, Lamp: 16}, {Sky: 16, Lamp: 15}, {Sky: 255, Lamp: 255}} {
			c.Lights[at] = light
			checks(t, "a light above 15", c, api.ErrArg)
		}
		c.Lights[at] = was
	}
	for n := range 256 {
		want := api.OK
		if n > 15 {
			want = api.ErrArg
		}
		c.Lights[n] = api.Light{Sky: uint8(n)}
		checks(t, "a Sky", c, want)
		c.Lights[n] = api.Light{Lamp: uint8(n)}
		checks(t, "a Lamp", c, want)
		c.Lights[n] = api.Light{Sky: 15, Lamp: 15}
	}
	checks(t, "none above 15", c, api.OK)
}

// P7.1: ticks that may not be so.
func TestCheckTicks(t *testing.T) {
	const least, most, due = math.MinInt64, math.MaxInt64, 1 << 41
	for _, told := range [][][2]int64{
		{{3, 1}, {3, 2}}, {{3, 2}, {3, 1}}, {{3, 2}, {3, 2}}, {{0, 1}, {0, 1}}, {{4095, 1}, {4095, 1}}, {{1, 1}, {2, 1}, {2, 1}, {3, 1}},
		{{4, 1}, {3, 2}}, {{1, 1}, {0, 2}}, {{4095, 1}, {0, 1}}, {{1, 1}, {2, 1}, {3, 1}, {2, 1}}, {{0, 1}, {9, 1}, {8, 1}, {10, 1}}, {{9, 1}, {8, 1}, {10, 1}},
		{{-1, 1}}, {{4096, 1}}, {{0, 1}, {4096, 1}}, {{4095, 1}, {4096, 1}}, {{-1, 1}, {0, 1}}, {{5, 1}, {-1, 1}, {6, 1}},
		{{least, 1}}, {{most, 1}}, {{least, 1}, {most, 1}}, {{most, 1}, {least, 1}}, {{1 << 32, 1}},
		{{0, 0}}, {{4095, 0}}, {{0, -1}}, {{0, least}}, {{0, due + 1}}, {{0, most}}, {{0, 1 << 42}},
		{{0, 1}, {1, 0}}, {{0, 0}, {1, 1}}, {{0, 1}, {1, due + 1}}, {{0, 1}, {1, -1}, {2, 1}}, {{0, due + 1}, {1, 1}},
	} {
		checks(t, "ticks that may not be so", filled(ticks(told...)), api.ErrForm)
	}
	all := everywhere(1)
	for _, l := range [][]api.Tick{
		slices.Concat(all, all[4095:]), slices.Concat(all, ticks([2]int64{4096, 1})), slices.Concat(all[:1], all),
		slices.Concat(all[:4095], ticks([2]int64{4095, 0})), slices.Concat(all[1:], all[:1]), slices.Concat(all, all),
	} {
		checks(t, "ticks at all indexes that may not be so", filled(l), api.ErrForm)
	}
}

// P7.1: each error goes ahead of those behind it, wherever what is wrong stands.
func TestCheckInOrder(t *testing.T) {
	for _, at := range [][2]int{{0, 4095}, {4095, 0}, {9, 9}} {
		for faults := range 8 {
			c, want := filled(nil), api.OK
			if faults&1 != 0 {
				c.Ticks, want = ticks([2]int64{0, 0}), api.ErrForm
			}
			if faults&2 != 0 {
				c.Lights[at[1]].Sky, want = 16, api.ErrArg
			}
			if faults&4 != 0 {
				c.Cells[at[0]].Kind, want = 15, api.ErrKind
			}
			checks(t, "several errors", c, want)
			before := recorded(c)
			Check(c)
			before.stays(t, "behind Check", c)
		}
	}
}

// sames tells what Same answered, there and back, where it is something else.
func sames(t *testing.T, what string, a, b *api.Chunk, want bool) {
	t.Helper()
	if Same(a, b) != want || Same(b, a) != want {
		t.Errorf("%s: Same = %t, and back %t, want %t", what, Same(a, b), Same(b, a), want)
	}
}

// P7.2: chunks that are the same.
func TestSame(t *testing.T) {
	sames(t, "two nil", nil, nil, true)
	sames(t, "two new ones", New(), New(), true)
	sames(t, "no ticks as nil and as an empty list", filled(nil), filled([]api.Tick{}), true)
	sames(t, "room behind the ticks", filled(ticks([2]int64{1, 2})), filled(roomy(ticks([2]int64{1, 2}))), true)
	sames(t, "chunks that may not be", wild(), wild(), true)
	for _, c := range []*api.Chunk{New(), filled(nil), filled(everywhere(5)), wild()} {
		sames(t, "nil and a chunk", nil, c, false)
		sames(t, "a chunk and itself", c, c, true)
		before := recorded(c)
		Same(c, filled(everywhere(6)))
		Same(New(), c)
		before.stays(t, "behind Same", c)
	}
	sames(t, "a new one and a filled one", New(), filled(nil), false)
	sames(t, "one that may be and one that may not", filled(nil), wild(), false)
}

// P7.2: chunks that differ in one thing, some of them such as may not be.
func TestSameButOne(t *testing.T) {
	for _, made := range []func() *api.Chunk{New, wild, func() *api.Chunk { return filled(everywhere(5)) }} {
		a, b := made(), made()
		for _, at := range someIndexes {
			for _, change := range []func(){
				func() { b.Cells[at].Kind++ }, func() { b.Cells[at].Level++ }, func() { b.Cells[at].Kind += 128 },
				func() { b.Lights[at].Sky++ }, func() { b.Lights[at].Lamp++ }, func() { b.Lights[at].Lamp += 128 },
			} {
				change()
				sames(t, "one cell or light differs", a, b, false)
				b.Cells[at], b.Lights[at] = a.Cells[at], a.Lights[at]
				sames(t, "none differs", a, b, true)
			}
		}
	}
}

// P7.2: chunks that differ in their ticks alone: of lists that differ in one thing or another no two are the same.
func TestSameTicks(t *testing.T) {
	lists := [][]api.Tick{
		nil, ticks([2]int64{0, 0}), ticks([2]int64{0, 5}), ticks([2]int64{5, 0}), ticks([2]int64{5, 7}), ticks([2]int64{5, 8}), ticks([2]int64{6, 7}),
		ticks([2]int64{5, 7 + 1<<32}), ticks([2]int64{5 + 1<<32, 7}), ticks([2]int64{-5, 7}), ticks([2]int64{5, -7}), ticks([2]int64{7, 5}),
		ticks([2]int64{5, 7}, [2]int64{6, 7}), ticks([2]int64{6, 7}, [2]int64{5, 7}), ticks([2]int64{5, 7}, [2]int64{6, 8}), ticks([2]int64{5, 8}, [2]int64{6, 7}),
		ticks([2]int64{5, 7}, [2]int64{5, 7}), ticks([2]int64{5, 7}, [2]int64{5, 8}), ticks([2]int64{5, 8}, [2]int64{5, 7}),
		everywhere(5), everywhere(6), everywhere(5)[1:], everywhere(5)[:4095], slices.Concat(everywhere(5)[:4095], ticks([2]int64{4095, 6})),
	}
	for i, l := range lists {
		for j, m := range lists {
			sames(t, "chunks by their ticks", filled(l), filled(m), i == j)
		}
	}
}

// P7.2, P7.7: a copy is the same, and another one.
func TestCopy(t *testing.T) {
	if c := Copy(nil); c != nil {
		t.Error("Copy(nil) is a chunk")
	}
	for _, l := range [][]api.Tick{nil, {}, ticks([2]int64{3, 4}), roomy(nil), roomy(ticks([2]int64{3, 4}, [2]int64{9, 1})), everywhere(9)} {
		for _, made := range []func() *api.Chunk{func() *api.Chunk { return filled(roomy(l)) }, func() *api.Chunk { return &api.Chunk{Ticks: l} }, wild} {
			c := made()
			before := recorded(c)
			d := Copy(c)
			if d == nil || d == c || d == Copy(c) {
				t.Fatal("Copy answers nil, or what it was made of, or one twice")
			}
			before.stays(t, "behind Copy", c)
			if d.Cells != c.Cells || d.Lights != c.Lights || !slices.Equal(d.Ticks, c.Ticks) {
				t.Error("a copy is not the same")
			}
			sames(t, "a copy", c, d, true)
		}
	}
}

// P7.7: a chunk that is changed leaves another one, of which it was made, or which was made of it, as it was.
func TestCopyApart(t *testing.T) {
	lists := [][]api.Tick{nil, {}, ticks([2]int64{3, 4}), ticks([2]int64{3, 4}, [2]int64{9, 1}, [2]int64{4095, 6}), everywhere(9)}
	for _, l := range lists {
		for _, change := range []func(c *api.Chunk){
			func(c *api.Chunk) { c.Cells[0].Kind++ },
			func(c *api.Chunk) { c.Cells[4095].Level++ },
			func(c *api.Chunk) { c.Lights[0].Sky++ },
			func(c *api.Chunk) { c.Lights[4095].Lamp++ },
			func(c *api.Chunk) { overwrite(c.Ticks) },
			func(c *api.Chunk) { c.Ticks = append(c.Ticks, api.Tick{At: 8, Due: 8}) },
			func(c *api.Chunk) { c.Ticks = append(c.Ticks[:0], api.Tick{At: 8, Due: 8}) },
			func(c *api.Chunk) { Wake(c, 3, 2) },
			func(c *api.Chunk) { Wake(c, 0, 2) },
			func(c *api.Chunk) { Wake(c, 4094, 2) },
			func(c *api.Chunk) { Drop(c, 3) },
			func(c *api.Chunk) { Drop(c, 4095) },
		} {
			c := filled(roomy(l))
			d := Copy(c)
			before := recorded(c)
			change(d)
			before.stays(t, "a copy was changed", c)
			d = Copy(c)
			before = recorded(d)
			change(c)
			before.stays(t, "what it was made of was changed", d)
		}
	}
}

// P7.5
func TestMovable(t *testing.T) {
	if n := Movable(nil); n != 0 {
		t.Errorf("Movable(nil) = %d", n)
	}
	if n := Movable(New()); n != 0 {
		t.Errorf("Movable of a new chunk = %d", n)
	}
	// Of each kind, of one level or another, be it one that may be or not: stone, soil, sand, gravel, wood, leaves, ash and glass are movable.
	for k := range 256 {
		c, each := New(), 0
		if k >= 2 && k <= 9 {
			each = 1
		}
		for i, at := range someIndexes {
			c.Cells[at] = api.Cell{Kind: uint8(k), Level: uint8(i * 25)}
			if n := Movable(c); n != each*(i+1) {
				t.Errorf("Movable of %d cells of the kind %d = %d", i+1, k, n)
			}
		}
		for at := range c.Cells {
			c.Cells[at].Kind = uint8(k)
		}
		if n := Movable(c); n != each*4096 {
			t.Errorf("Movable of a chunk of the kind %d = %d", k, n)
		}
	}
	c := wild()
	before := recorded(c)
	if n := Movable(c); n != 16*8 {
		t.Errorf("Movable of all kinds, sixteen times = %d", n)
	}
	before.stays(t, "behind Movable", c)
}

// P7.5: a movable cell anywhere is counted, and nothing else is.
func TestMovableAnywhere(t *testing.T) {
	c := &api.Chunk{Ticks: everywhere(3)}
	for at := range c.Lights {
		c.Lights[at] = api.Light{Sky: 4, Lamp: 2}
	}
	for i := range 4096 {
		at := i * 1103 % 4096
		c.Cells[at] = api.Cell{Kind: uint8(2 + i%8)}
		if n := Movable(c); n != i+1 {
			t.Fatalf("Movable of %d movable cells = %d", i+1, n)
		}
	}
}
