package pack

import (
	"math"
	"math/rand"
	"slices"
	"testing"

	"bedrock/api"
)

// levels are the least and the greatest of each kind's levels.
var levels = [15][2]uint8{api.Torch: {1, 15}, api.Plant: {0, 3}, api.Water: {0, 7}, api.Fire: {0, 1}}

func wantMay(c api.Cell) bool {
	return int(c.Kind) < len(levels) && levels[c.Kind][0] <= c.Level && c.Level <= levels[c.Kind][1]
}

// someCells are all cells that may be, or all that may not.
func someCells(may bool) []api.Cell {
	var l []api.Cell
	for kind := range 256 {
		for level := range 256 {
			if c := (api.Cell{Kind: uint8(kind), Level: uint8(level)}); wantMay(c) == may {
				l = append(l, c)
			}
		}
	}
	return l
}

// wantNumber is chapter 4's a number's bytes.
func wantNumber(n uint64) []byte {
	l := []byte{byte(n % 128)}
	for n /= 128; n > 0; n /= 128 {
		l[len(l)-1] += 128
		l = append(l, byte(n%128))
	}
	return l
}

// stretch is so many numbers, all of them the same.
type stretch struct {
	n  int
	of uint8
}

// runsOf are chapter 5's runs of a row.
func runsOf(row []uint8) []stretch {
	var l []stretch
	for i, x := range row {
		if i == 0 || row[i-1] != x {
			l = append(l, stretch{0, x})
		}
		l[len(l)-1].n++
	}
	return l
}

// pair is a tick as it is written: how many indexes are skipped, and when it is due.
type pair struct{ skipped, due uint64 }

// parts are what stands in a chunk's bytes, be they one's or not.
type parts struct {
	palette        []api.Cell
	places, lights []stretch
	count          uint64
	ticks          []pair
}

func (p parts) bytes() []byte {
	b := []byte{byte(len(p.palette))}
	for _, c := range p.palette {
		b = append(b, c.Kind, c.Level)
	}
	for _, s := range slices.Concat(p.places, p.lights) {
		b = append(append(b, wantNumber(uint64(s.n))...), s.of)
	}
	b = append(b, wantNumber(p.count)...)
	for _, t := range p.ticks {
		b = append(append(b, wantNumber(t.skipped)...), wantNumber(t.due)...)
	}
	return b
}

// partsOf are those of a chunk, by the document's words.
func partsOf(c *api.Chunk) parts {
	var p parts
	places, lights := make([]uint8, 4096), make([]uint8, 4096)
	for i, cell := range c.Cells {
		if !slices.Contains(p.palette, cell) {
			p.palette = append(p.palette, cell)
		}
		places[i] = uint8(slices.Index(p.palette, cell))
		lights[i] = 16*c.Lights[i].Sky + c.Lights[i].Lamp
	}
	p.places, p.lights, p.count = runsOf(places), runsOf(lights), uint64(len(c.Ticks))
	for i, t := range c.Ticks {
		skipped := t.At
		if i > 0 {
			skipped = t.At - c.Ticks[i-1].At - 1
		}
		p.ticks = append(p.ticks, pair{uint64(skipped), uint64(t.Due)})
	}
	return p
}

func wantPut(c *api.Chunk) []byte { return partsOf(c).bytes() }

// wantCan is the document's a chunk can be packed.
func wantCan(c *api.Chunk) bool {
	for i := range c.Cells {
		if !wantMay(c.Cells[i]) || c.Lights[i].Sky > 15 || c.Lights[i].Lamp > 15 {
			return false
		}
	}
	for i, t := range c.Ticks {
		if t.At < 0 || t.At > 4095 || t.Due < 1 || t.Due > 1<<41 || i > 0 && t.At <= c.Ticks[i-1].At {
			return false
		}
	}
	return true
}

func same(a, b *api.Chunk) bool {
	return a.Cells == b.Cells && a.Lights == b.Lights && slices.Equal(a.Ticks, b.Ticks)
}

// clone is another chunk that is the same, with the same room behind its ticks.
func clone(c *api.Chunk) *api.Chunk {
	d := *c
	d.Ticks = slices.Clone(c.Ticks[:cap(c.Ticks)])[:len(c.Ticks)]
	return &d
}

// uniform is a chunk of one kind of cell and one light.
func uniform(cell api.Cell, light api.Light) *api.Chunk {
	c := &api.Chunk{}
	for i := range c.Cells {
		c.Cells[i], c.Lights[i] = cell, light
	}
	return c
}

// turned is a chunk with one cell after the other and one light after the other, again and again, each so many times.
func turned(cells []api.Cell, lights []api.Light, times int) *api.Chunk {
	c := &api.Chunk{}
	for i := range c.Cells {
		c.Cells[i] = cells[i/times%len(cells)]
		c.Lights[i] = lights[i/times%len(lights)]
	}
	return c
}

// ticked is a chunk of air with these ticks.
func ticked(ticks ...api.Tick) *api.Chunk {
	return &api.Chunk{Ticks: ticks}
}

// everywhere are ticks at each so many indexes, from one on.
func everywhere(from, step int, due int64) []api.Tick {
	var l []api.Tick
	for at := from; at < 4096; at += step {
		l = append(l, api.Tick{At: at, Due: due})
	}
	return l
}

func allLights() []api.Light {
	var l []api.Light
	for sky := range uint8(16) {
		for lamp := range uint8(16) {
			l = append(l, api.Light{Sky: sky, Lamp: lamp})
		}
	}
	return l
}

// longest is the chunk with the most bytes: all cells that may be, runs of one cell each, and ticks at all indexes, as late as may be.
func longest() *api.Chunk {
	c := turned(someCells(true), allLights(), 1)
	c.Ticks = everywhere(0, 1, 1<<41)
	return c
}

// small is a chunk with a little of all: three cells, two lights, three ticks.
func small() *api.Chunk {
	c := uniform(api.Cell{Kind: api.Air}, api.Light{Sky: 15})
	c.Cells[7], c.Cells[8] = api.Cell{Kind: api.Stone}, api.Cell{Kind: api.Torch, Level: 9}
	c.Lights[7] = api.Light{}
	c.Ticks = []api.Tick{{At: 3, Due: 5}, {At: 4, Due: 300}, {At: 200, Due: 1 << 41}}
	return c
}

// dues are due times: the least, those next to the borders at which a number takes a byte more, and the greatest.
func dues() []int64 {
	l := []int64{1, 2, 300, 1<<41 - 1, 1 << 41}
	for bits := 7; bits <= 35; bits += 7 {
		l = append(l, 1<<bits-1, 1<<bits, 1<<bits+1)
	}
	return l
}

// ticksOnly are chunks that differ in their ticks.
func ticksOnly() []*api.Chunk {
	l := []*api.Chunk{
		ticked(), {Ticks: []api.Tick{}}, ticked(api.Tick{At: 0, Due: 9}, api.Tick{At: 4095, Due: 8}),
		ticked(everywhere(0, 1, 1)...), ticked(everywhere(0, 1, 1<<41)...), ticked(everywhere(1, 2, 300)...),
		ticked(everywhere(0, 128, 7)...), ticked(everywhere(127, 129, 7)...), ticked(everywhere(5, 130, 127)...),
	}
	for _, at := range []int{0, 1, 126, 127, 128, 129, 255, 256, 2048, 4094, 4095} {
		l = append(l, ticked(api.Tick{At: at, Due: 1}))
		for _, further := range []int{1, 2, 127, 128, 129, 130, 2048, 4095} {
			if at+further <= 4095 {
				l = append(l, ticked(api.Tick{At: at, Due: 128}, api.Tick{At: at + further, Due: 127}))
			}
		}
	}
	for _, due := range dues() {
		l = append(l, ticked(api.Tick{At: 17, Due: due}))
	}
	return l
}

// drawn is a chunk of long and short runs, with some ticks, other ones for each seed.
func drawn(seed int64) *api.Chunk {
	draw := rand.New(rand.NewSource(seed))
	cells, lights := someCells(true), allLights()
	draw.Shuffle(len(cells), func(i, j int) { cells[i], cells[j] = cells[j], cells[i] })
	cells = cells[:1+draw.Intn(len(cells))]
	c, far := &api.Chunk{}, 1+draw.Intn(300)
	for i := range c.Cells {
		if i == 0 || draw.Intn(far) == 0 {
			c.Cells[i] = cells[draw.Intn(len(cells))]
		} else {
			c.Cells[i] = c.Cells[i-1]
		}
		if i == 0 || draw.Intn(far) == 0 {
			c.Lights[i] = lights[draw.Intn(len(lights))]
		} else {
			c.Lights[i] = c.Lights[i-1]
		}
		if draw.Intn(20*far) == 0 {
			c.Ticks = append(c.Ticks, api.Tick{At: i, Due: 1 + draw.Int63n(1<<draw.Intn(42))})
		}
	}
	return c
}

// chunks are chunks that can be packed: of one kind of cell, of all, in one order and in the other, in runs of one cell each and in long ones, with all lights, with all sorts of ticks.
func chunks() []*api.Chunk {
	cells, lights := someCells(true), allLights()
	backwards := slices.Clone(cells)
	slices.Reverse(backwards)
	l := []*api.Chunk{small(), longest()}
	for i, cell := range cells {
		l = append(l, uniform(cell, lights[i*6]))
	}
	for _, light := range lights {
		l = append(l, uniform(api.Cell{Kind: api.Glass}, light))
	}
	for _, times := range []int{1, 2, 3, 16, 100, 127, 128, 129, 256, 2048, 4095} {
		l = append(l, turned(cells, lights, times), turned(backwards, lights[77:], times), turned(cells[:2], lights[:1], times), turned(cells[:1], lights[14:19], times))
	}
	for seed := range int64(60) {
		l = append(l, drawn(seed))
	}
	return append(l, ticksOnly()...)
}

// puts tells what Put answered, where it is the bytes.
func puts(t *testing.T, what string, c *api.Chunk, want []byte) {
	t.Helper()
	if b, e := Put(c); e != api.OK || !slices.Equal(b, want) {
		t.Errorf("%s: Put = %d bytes, error %d, want %d bytes, or they are others", what, len(b), e, len(want))
	}
}

// cannot tells that Put answers the error, and no bytes beside it.
func cannot(t *testing.T, what string, c *api.Chunk, want api.Errno) {
	t.Helper()
	if b, e := Put(c); e != want || len(b) != 0 {
		t.Errorf("%s: Put = %d bytes, error %d, want error %d alone", what, len(b), e, want)
	}
}

// gets tells what Get answered, where it is the chunk.
func gets(t *testing.T, what string, b []byte, want *api.Chunk) {
	t.Helper()
	if c, e := Get(b); e != api.OK || c == nil || !same(c, want) {
		t.Errorf("%s: Get(%d bytes) = another chunk or none, error %d", what, len(b), e)
	}
}

// refuses tells that Get answers ErrForm, and no chunk beside it.
func refuses(t *testing.T, what string, b []byte) {
	t.Helper()
	if c, e := Get(b); e != api.ErrForm || c != nil {
		t.Errorf("%s: Get(%d bytes) = a chunk: %t, error %d, want ErrForm alone", what, len(b), c != nil, e)
	}
}

// P6.1, P6.2: Put, and there and back.
func TestThereAndBack(t *testing.T) {
	for _, c := range chunks() {
		b := wantPut(c)
		puts(t, "there", c, b)
		gets(t, "and back", b, c)
	}
}

// P6.2: all chunks of one kind of cell, one light and no ticks have 10 bytes.
func TestUniform(t *testing.T) {
	for _, cell := range someCells(true) {
		for _, light := range allLights() {
			c := uniform(cell, light)
			b := []byte{1, cell.Kind, cell.Level, 0x80, 0x20, 0, 0x80, 0x20, 16*light.Sky + light.Lamp, 0}
			puts(t, "uniform", c, b)
			gets(t, "uniform", b, c)
		}
	}
}

// P6.2: how many bytes a chunk has at most.
func TestLongest(t *testing.T) {
	b, e := Put(longest())
	if want := 1 + 2*40 + 2*2*4096 + 2 + (1+6)*4096; e != api.OK || len(b) != want || want > api.MaxBlob {
		t.Errorf("the longest chunk has %d bytes, error %d, want %d", len(b), e, want)
	}
	for _, c := range chunks() {
		if got, _ := Put(c); len(got) > len(b) || len(got) < 10 {
			t.Errorf("a chunk has %d bytes, the longest one %d", len(got), len(b))
		}
	}
}

// P6.1: the palette in the order in which its cells stand first, wherever that is.
func TestPaletteInOrder(t *testing.T) {
	for _, x := range []struct {
		at      [3]int
		palette [4]uint8
	}{
		{[3]int{0, 1, 2}, [4]uint8{api.Mover, api.Bedrock, api.Sand, api.Soil}},
		{[3]int{2, 1, 0}, [4]uint8{api.Sand, api.Bedrock, api.Mover, api.Soil}},
		{[3]int{4095, 4094, 4093}, [4]uint8{api.Soil, api.Sand, api.Bedrock, api.Mover}},
		{[3]int{4095, 1, 2000}, [4]uint8{api.Soil, api.Bedrock, api.Sand, api.Mover}},
	} {
		c := uniform(api.Cell{Kind: api.Soil}, api.Light{})
		for i, kind := range []uint8{api.Mover, api.Bedrock, api.Sand} {
			c.Cells[x.at[i]].Kind = kind
		}
		head := []byte{4, x.palette[0], 0, x.palette[1], 0, x.palette[2], 0, x.palette[3], 0}
		if b, e := Put(c); e != api.OK || !slices.Equal(b[:9], head) {
			t.Errorf("at %v: Put = % x .., error %d, want % x ..", x.at, b[:min(9, len(b))], e, head)
		}
		gets(t, "a palette in order", wantPut(c), c)
	}
}

// P6.1: nil.
func TestNil(t *testing.T) {
	cannot(t, "nil", nil, api.ErrNil)
	refuses(t, "nil", nil)
	refuses(t, "no bytes", []byte{})
}

// P6.1: a cell that may not be, at the first index, at the last one, and in the midst.
func TestCellThatMayNotBe(t *testing.T) {
	c := small()
	for _, cell := range someCells(false) {
		// All at one index or another, those next to what may be at all of them.
		all := []int{0, 1, 255, 2048, 4094, 4095}
		at := []int{all[(int(cell.Kind)+int(cell.Level))%len(all)]}
		if cell.Kind <= 16 && cell.Level <= 16 || cell.Kind == 255 || cell.Level == 255 {
			at = all
		}
		for _, i := range at {
			was := c.Cells[i]
			c.Cells[i] = cell
			cannot(t, "a cell that may not be", c, api.ErrArg)
			c.Cells[i] = was
		}
	}
	for i := range c.Cells {
		was := c.Cells[i]
		c.Cells[i] = api.Cell{Kind: 15}
		cannot(t, "a kind above the table's", c, api.ErrArg)
		c.Cells[i] = was
	}
	cannot(t, "none that may be", uniform(api.Cell{Kind: api.Torch}, api.Light{}), api.ErrArg)
	puts(t, "all may be", c, wantPut(small()))
}

// P6.1: a light above 15, at any index.
func TestLightThatMayNotBe(t *testing.T) {
	c := small()
	for i := range c.Lights {
		was := c.Lights[i]
		for _, light := range []api.Light{{Sky: 16}, {Lamp: 16}, {Sky: 255}, {Lamp: 255}, {Sky: 15, Lamp: 16}, {Sky: 16, Lamp: 15}} {
			c.Lights[i] = light
			cannot(t, "a light above 15", c, api.ErrArg)
		}
		c.Lights[i] = was
	}
	for n := 16; n < 256; n++ {
		c.Lights[n].Sky = uint8(n)
		cannot(t, "a Sky above 15", c, api.ErrArg)
		c.Lights[n] = api.Light{Lamp: uint8(n)}
		cannot(t, "a Lamp above 15", c, api.ErrArg)
		c.Lights[n] = api.Light{Sky: 15}
	}
	puts(t, "none above 15", c, wantPut(small()))
}

// ticksOf are ticks, each told by its At and its Due.
func ticksOf(told ...[2]int64) []api.Tick {
	var l []api.Tick
	for _, x := range told {
		l = append(l, api.Tick{At: int(x[0]), Due: x[1]})
	}
	return l
}

// P6.1: ticks that may not be so.
func TestTicksThatMayNotBe(t *testing.T) {
	const least, most, due = math.MinInt64, math.MaxInt64, 1 << 41
	for _, told := range [][][2]int64{
		{{3, 1}, {3, 2}}, {{3, 2}, {3, 2}}, {{0, 1}, {0, 1}}, {{4095, 1}, {4095, 1}},
		{{4, 1}, {3, 2}}, {{1, 1}, {0, 2}}, {{4095, 1}, {0, 1}}, {{1, 1}, {2, 1}, {3, 1}, {2, 1}}, {{0, 1}, {9, 1}, {8, 1}, {10, 1}},
		{{-1, 1}}, {{4096, 1}}, {{0, 1}, {4096, 1}}, {{4095, 1}, {4096, 1}}, {{-1, 1}, {0, 1}}, {{5, 1}, {-1, 1}, {6, 1}},
		{{least, 1}}, {{most, 1}}, {{least, 1}, {most, 1}}, {{5, 1}, {least, 1}}, {{most, 1}, {least, 1}}, {{1 << 32, 1}},
		{{0, 0}}, {{4095, 0}}, {{0, -1}}, {{0, least}}, {{0, due + 1}}, {{0, most}}, {{0, 1 << 42}},
		{{0, 1}, {1, 0}}, {{0, 0}, {1, 1}}, {{0, 1}, {1, due + 1}}, {{0, 1}, {1, -1}, {2, 1}},
	} {
		cannot(t, "ticks that may not be", ticked(ticksOf(told...)...), api.ErrArg)
	}
	all := everywhere(0, 1, 1)
	for _, ticks := range [][]api.Tick{
		slices.Concat(all, all[4095:]), slices.Concat(all, []api.Tick{{At: 4096, Due: 1}}),
		slices.Concat(all[:1], all), slices.Concat(all[:4095], []api.Tick{{At: 4095}}), slices.Concat(all[1:], all[:1]),
	} {
		cannot(t, "ticks at all indexes that may not be", ticked(ticks...), api.ErrArg)
	}
}

// P6.2: bytes that are cut anywhere.
func TestCut(t *testing.T) {
	for _, c := range chunks() {
		b := wantPut(c)
		for cut := 0; cut < len(b); cut += 1 + len(b)/150 {
			refuses(t, "cut", b[:cut])
		}
		for cut := max(0, len(b)-12); cut < len(b); cut++ {
			refuses(t, "cut near the end", b[:cut])
		}
	}
	b := wantPut(turned(someCells(true), allLights()[:9], 3))
	for cut := range b {
		refuses(t, "cut anywhere", b[:cut])
	}
}

// P6.2: bytes with more bytes behind them.
func TestBehind(t *testing.T) {
	for _, c := range chunks() {
		b := wantPut(c)
		for _, behind := range [][]byte{{0}, {1}, {0x80}, {255}, {0, 0}, {0, 1}, b, make([]byte, api.MaxBlob-len(b)), make([]byte, api.MaxBlob), make([]byte, 300000)} {
			refuses(t, "with more behind", slices.Concat(b, behind))
		}
	}
}

// base are parts of small, of which the tests change one thing or another.
func base() parts { return partsOf(small()) }

// P6.1: the parts, as they are changed by the tests, are a chunk's as long as nothing is changed.
func TestBase(t *testing.T) {
	want := parts{
		palette: []api.Cell{{Kind: api.Air}, {Kind: api.Stone}, {Kind: api.Torch, Level: 9}},
		places:  []stretch{{7, 0}, {1, 1}, {1, 2}, {4087, 0}},
		lights:  []stretch{{7, 0xf0}, {1, 0}, {4088, 0xf0}},
		count:   3,
		ticks:   []pair{{3, 5}, {0, 300}, {195, 1 << 41}},
	}
	gets(t, "base", want.bytes(), small())
	gets(t, "base", base().bytes(), small())
}

// P6.1: palettes that are not the chunk's.
func TestOtherPalettes(t *testing.T) {
	air, stone, torch := api.Cell{Kind: api.Air}, api.Cell{Kind: api.Stone}, api.Cell{Kind: api.Torch, Level: 9}
	for what, x := range map[string]parts{
		"no cells":                         {palette: nil, places: base().places},
		"one cell too few":                 {palette: []api.Cell{air, stone}, places: base().places},
		"a cell twice":                     {palette: []api.Cell{air, stone, air}, places: base().places},
		"the first cell twice":             {palette: []api.Cell{air, air, stone}, places: base().places},
		"the last cell twice":              {palette: []api.Cell{air, stone, stone}, places: base().places},
		"a cell twice, once not used":      {palette: []api.Cell{air, stone, torch, air}, places: base().places},
		"another order":                    {palette: []api.Cell{stone, air, torch}, places: []stretch{{7, 1}, {1, 0}, {1, 2}, {4087, 1}}},
		"another order at the end":         {palette: []api.Cell{air, torch, stone}, places: []stretch{{7, 0}, {1, 2}, {1, 1}, {4087, 0}}},
		"a cell that is not there":         {palette: []api.Cell{air, stone, torch, {Kind: api.Soil}}, places: base().places},
		"a cell ahead that is not there":   {palette: []api.Cell{{Kind: api.Soil}, air, stone, torch}, places: []stretch{{7, 1}, {1, 2}, {1, 3}, {4087, 1}}},
		"a cell between that is not there": {palette: []api.Cell{air, {Kind: api.Soil}, stone, torch}, places: []stretch{{7, 0}, {1, 2}, {1, 3}, {4087, 0}}},
		"one cell there of two":            {palette: []api.Cell{air, stone}, places: []stretch{{4096, 0}}},
		"the second one alone":             {palette: []api.Cell{air, stone}, places: []stretch{{4096, 1}}},
		"the second one ahead":             {palette: []api.Cell{air, stone}, places: []stretch{{4095, 1}, {1, 0}}},
	} {
		p := base()
		p.palette, p.places = x.palette, x.places
		refuses(t, what, p.bytes())
	}
}

// P6.1: palettes in every other order, of cells that stand in the chunk again and again.
func TestOtherOrders(t *testing.T) {
	cells := someCells(true)
	for _, n := range []int{2, 3, 5, len(cells)} {
		c := turned(cells[:n], []api.Light{{}}, 1)
		gets(t, "in order", wantPut(c), c)
		for i := range n {
			for j := range i {
				p := partsOf(c)
				p.palette[i], p.palette[j] = p.palette[j], p.palette[i]
				for k, s := range p.places {
					switch int(s.of) {
					case i:
						p.places[k].of = uint8(j)
					case j:
						p.places[k].of = uint8(i)
					}
				}
				refuses(t, "in another order", p.bytes())
			}
		}
	}
}

// P6.1: a palette with a cell that may not be, wherever it stands there, and in the chunk or not.
func TestPaletteThatMayNotBe(t *testing.T) {
	p := base()
	for _, cell := range someCells(false) {
		at := (int(cell.Kind) + int(cell.Level)) % 3
		was := p.palette[at]
		p.palette[at] = cell
		refuses(t, "a cell that may not be", p.bytes())
		p.palette[at] = was
	}
	for _, cell := range []api.Cell{{Kind: 15}, {Kind: 255, Level: 255}, {Kind: api.Torch}, {Kind: api.Torch, Level: 16}, {Kind: api.Water, Level: 8}, {Kind: api.Air, Level: 1}} {
		for at := range 3 {
			p := base()
			p.palette[at] = cell
			refuses(t, "a cell that may not be", p.bytes())
		}
		p := base()
		p.palette = append(p.palette, cell)
		refuses(t, "a cell that may not be, and is not there", p.bytes())
	}
}

// P6.1: palettes with more cells than there are unlike ones, up to 255.
func TestLongPalettes(t *testing.T) {
	cells := someCells(true)
	for n := 1; n < 256; n++ {
		var p parts
		for i := range n {
			p.palette = append(p.palette, cells[i%len(cells)])
			p.places = append(p.places, stretch{1, uint8(i)})
		}
		p.places[n-1].n = 4096 - n + 1
		p.lights = []stretch{{4096, 0}}
		if n > len(cells) {
			refuses(t, "more cells than there are", p.bytes())
			continue
		}
		c := &api.Chunk{}
		for i := range c.Cells {
			c.Cells[i] = cells[min(i, n-1)]
		}
		gets(t, "many cells", p.bytes(), c)
	}
}

// P6.1: rows of cells that are none, or have another length, or places that the palette has not.
func TestOtherPlaces(t *testing.T) {
	for what, places := range map[string][]stretch{
		"none":                                {},
		"one fewer":                           {{7, 0}, {1, 1}, {1, 2}, {4086, 0}},
		"one more":                            {{7, 0}, {1, 1}, {1, 2}, {4088, 0}},
		"one more in a run of its own":        {{7, 0}, {1, 1}, {1, 2}, {4087, 0}, {1, 1}},
		"twice as many":                       {{7, 0}, {1, 1}, {1, 2}, {4087, 0}, {7, 1}, {1, 0}, {4088, 2}},
		"half as many":                        {{7, 0}, {1, 1}, {1, 2}, {2039, 0}},
		"a place that the palette has not":    {{7, 0}, {1, 1}, {1, 2}, {4086, 0}, {1, 3}},
		"such a place in the midst":           {{7, 0}, {1, 1}, {1, 2}, {1, 3}, {4086, 0}},
		"such a place ahead":                  {{1, 3}, {6, 0}, {1, 1}, {1, 2}, {4087, 0}},
		"the greatest place":                  {{7, 0}, {1, 1}, {1, 2}, {4086, 0}, {1, 255}},
		"a run of nothing":                    {{7, 0}, {0, 5}, {1, 1}, {1, 2}, {4087, 0}},
		"two runs that ought to be one":       {{6, 0}, {1, 0}, {1, 1}, {1, 2}, {4087, 0}},
		"2^16 more":                           {{7, 0}, {1, 1}, {1, 2}, {4087 + 65536, 0}},
		"the last two in the other order":     {{7, 0}, {1, 2}, {1, 1}, {4087, 0}},
		"a place left out, then one too high": {{7, 0}, {1, 1}, {4088, 3}},
	} {
		p := base()
		p.places = places
		refuses(t, what, p.bytes())
	}
}

// P6.1: rows of lights that are none, or have another length.
func TestOtherLights(t *testing.T) {
	for what, lights := range map[string][]stretch{
		"none":                          {},
		"one fewer":                     {{7, 0xf0}, {1, 0}, {4087, 0xf0}},
		"one more":                      {{7, 0xf0}, {1, 0}, {4089, 0xf0}},
		"one more in a run of its own":  {{7, 0xf0}, {1, 0}, {4088, 0xf0}, {1, 0}},
		"a run of nothing":              {{7, 0xf0}, {1, 0}, {0, 1}, {4088, 0xf0}},
		"two runs that ought to be one": {{6, 0xf0}, {1, 0xf0}, {1, 0}, {4088, 0xf0}},
		"2^16 more":                     {{7, 0xf0}, {1, 0}, {4088 + 65536, 0xf0}},
	} {
		p := base()
		p.lights = lights
		refuses(t, what, p.bytes())
	}
}

// P6.1: a number of ticks that is another than how many stand there.
func TestOtherCounts(t *testing.T) {
	counts := []uint64{4095, 4096, 4097, 1<<63 - 1, math.MaxUint64 - 1, math.MaxUint64}
	for there := range uint64(4) {
		counts = append(counts, there)
		for bits := 7; bits < 64; bits++ {
			counts = append(counts, 1<<bits+there)
		}
	}
	for there := range 4 {
		p := base()
		p.ticks = p.ticks[:there]
		for _, count := range counts {
			if p.count = count; count != uint64(len(p.ticks)) {
				refuses(t, "another number of ticks", p.bytes())
			}
		}
	}
	all := partsOf(longest())
	for _, count := range []uint64{0, 1, 4095, 4097, 8192, 1 << 63, math.MaxUint64} {
		all.count = count
		refuses(t, "another number of ticks than all", all.bytes())
	}
	all.count, all.ticks = 4097, append(all.ticks, pair{0, 1})
	refuses(t, "one tick more than there are indexes", all.bytes())
	all.ticks[4096].skipped = math.MaxUint64
	refuses(t, "one tick more, at the last index once more", all.bytes())
}

// P6.1: numbers of ticks, and due times, that take one out of what may be.
func TestOtherTicks(t *testing.T) {
	for _, ticks := range [][]pair{
		{{4096, 1}}, {{4097, 1}}, {{1 << 32, 1}}, {{1 << 63, 1}}, {{math.MaxUint64, 1}}, {{math.MaxUint64 - 1, 1}},
		{{0, 1}, {4095, 1}}, {{4095, 1}, {0, 1}}, {{4000, 1}, {95, 1}}, {{1, 1}, {1, 1}, {4092, 1}},
		{{9, 1}, {math.MaxUint64, 1}}, {{9, 1}, {math.MaxUint64 - 3, 1}}, {{9, 1}, {1<<63 + 1, 1}}, {{9, 1}, {1<<64 - 10, 1}}, {{9, 1}, {1<<32 + 1, 1}},
		{{0, 0}}, {{0, 1<<41 + 1}}, {{0, 1 << 42}}, {{0, 1 << 63}}, {{0, 1<<63 + 1}}, {{0, math.MaxUint64}}, {{0, 1<<63 - 1}},
		{{0, 1}, {0, 0}}, {{0, 0}, {0, 1}}, {{0, 1}, {0, 1<<41 + 1}}, {{0, 1<<41 + 1}, {0, 1}},
	} {
		p := base()
		p.count, p.ticks = uint64(len(ticks)), ticks
		refuses(t, "ticks that may not be", p.bytes())
	}
	for _, x := range []struct {
		written []pair
		ticks   []api.Tick
	}{
		{[]pair{{4095, 1}}, ticksOf([2]int64{4095, 1})},
		{[]pair{{0, 1}, {4094, 1 << 41}}, ticksOf([2]int64{0, 1}, [2]int64{4095, 1 << 41})},
		{[]pair{{4000, 7}, {94, 8}}, ticksOf([2]int64{4000, 7}, [2]int64{4095, 8})},
	} {
		p, c := base(), small()
		p.count, p.ticks, c.Ticks = uint64(len(x.written)), x.written, x.ticks
		gets(t, "the last tick that may be", p.bytes(), c)
	}
}

// P6.1: bytes that are none of a number, where one of the ticks' ought to stand.
func TestNoNumbers(t *testing.T) {
	p := base()
	p.count, p.ticks = 0, nil
	ahead := p.bytes()
	ahead = ahead[:len(ahead)-1]
	for _, x := range []struct {
		what   string
		behind []byte
		ok     bool
	}{
		{"as it ought to be", []byte{1, 3, 5}, true},
		{"a number of ticks with a byte too many", []byte{0x81, 0, 3, 5}, false},
		{"no ticks with a byte too many", []byte{0x80, 0}, false},
		{"no ticks", []byte{0}, true},
		{"a number of ticks that does not end", []byte{0x81}, false},
		{"a number of ticks above 2^64", []byte{0x81, 0x80, 0x80, 0x80, 0x80, 0x80, 0x80, 0x80, 0x80, 2, 3, 5}, false},
		{"a tick's number with a byte too many", []byte{1, 0x83, 0, 5}, false},
		{"a tick's number that does not end", []byte{1, 0x83}, false},
		{"a tick's number above 2^64", []byte{1, 0x83, 0x80, 0x80, 0x80, 0x80, 0x80, 0x80, 0x80, 0x80, 2, 5}, false},
		{"a due time with a byte too many", []byte{1, 3, 0x85, 0}, false},
		{"a due time that does not end", []byte{1, 3, 0x85}, false},
		{"a due time above 2^64", []byte{1, 3, 0x85, 0x80, 0x80, 0x80, 0x80, 0x80, 0x80, 0x80, 0x80, 2}, false},
		{"no due time", []byte{1, 3}, false},
		{"no number ahead of a due time", []byte{1}, false},
	} {
		b := slices.Concat(ahead, x.behind)
		if !x.ok {
			refuses(t, x.what, b)
			continue
		}
		if c, e := Get(b); e != api.OK || !slices.Equal(wantPut(c), b) {
			t.Errorf("%s: Get answers error %d, or another chunk", x.what, e)
		}
	}
}

// lenient reads a chunk's bytes, whether they are as they ought to be or not.
type lenient struct {
	left []byte
	lost bool
}

func (r *lenient) byte() uint8 {
	if len(r.left) == 0 {
		r.lost = true
		return 0
	}
	x := r.left[0]
	r.left = r.left[1:]
	return x
}

func (r *lenient) number() uint64 {
	n := uint64(0)
	for shift := 0; ; shift += 7 {
		x := r.byte()
		n += uint64(x%128) << shift
		if x < 128 {
			return n
		}
	}
}

func (r *lenient) row() []uint8 {
	var l []uint8
	for len(l) < 4096 && !r.lost {
		n, x := r.number(), r.byte()
		if n == 0 || n > 4096 {
			r.lost = true
			break
		}
		l = append(l, slices.Repeat([]uint8{x}, int(n))...)
	}
	r.lost = r.lost || len(l) > 4096
	return l
}

// wantGet is the chunk that is read out of b, if it can be packed, and its bytes are b; else nil.
func wantGet(b []byte) *api.Chunk {
	r, c := &lenient{left: b}, &api.Chunk{}
	palette := make([]api.Cell, 256)
	for i := range r.byte() {
		palette[i] = api.Cell{Kind: r.byte(), Level: r.byte()}
	}
	for i, place := range r.row() {
		if i < 4096 {
			c.Cells[i] = palette[place]
		}
	}
	for i, n := range r.row() {
		if i < 4096 {
			c.Lights[i] = api.Light{Sky: n >> 4, Lamp: n & 15}
		}
	}
	at := -1
	for n := r.number(); n > 0 && !r.lost && len(c.Ticks) <= 4096; n-- {
		at += int(r.number()) + 1
		c.Ticks = append(c.Ticks, api.Tick{At: at, Due: int64(r.number())})
	}
	if r.lost || !wantCan(c) || !slices.Equal(wantPut(c), b) {
		return nil
	}
	return c
}

// asRead tells that Get takes b just if it is a chunk's bytes.
func asRead(t *testing.T, what string, b []byte) bool {
	t.Helper()
	want := wantGet(b)
	if want == nil {
		refuses(t, what, b)
		return false
	}
	gets(t, what, b, want)
	return true
}

// P6.1: bytes of small chunks with one of them changed to any other one, left out, or put in.
func TestOneByteChanged(t *testing.T) {
	took := 0
	for _, c := range []*api.Chunk{uniform(api.Cell{Kind: api.Torch, Level: 3}, api.Light{Sky: 3}), small(), turned(someCells(true), allLights(), 600)} {
		b := wantPut(c)
		for i := range b {
			asRead(t, "one byte left out", slices.Delete(slices.Clone(b), i, i+1))
			for x := range 256 {
				changed := slices.Clone(b)
				changed[i] = uint8(x)
				if asRead(t, "one byte changed", changed) {
					took++
				}
				asRead(t, "one byte put in", slices.Insert(slices.Clone(b), i, uint8(x)))
			}
		}
	}
	if took < 1000 {
		t.Errorf("%d rows of bytes were a chunk's", took)
	}
}

// P6.1: bytes of all sorts of chunks with some of them changed.
func TestSomeBytesChanged(t *testing.T) {
	draw := rand.New(rand.NewSource(6))
	l := chunks()
	for range 3000 {
		b := wantPut(l[draw.Intn(len(l))])
		for range 1 + draw.Intn(3) {
			at, further := draw.Intn(len(b)), draw.Intn(4)
			// Most chunks' bytes tell of cells and lights: the ends are looked at as often.
			switch draw.Intn(3) {
			case 0:
				at = min(len(b)-1, draw.Intn(90))
			case 1:
				at = max(0, len(b)-1-draw.Intn(90))
			}
			switch draw.Intn(4) {
			case 0:
				b[at] = uint8(draw.Intn(256))
			case 1:
				b[at] += uint8(1 + 254*draw.Intn(2))
			case 2:
				b = append(slices.Delete(b, at, min(len(b), at+further)), uint8(further))
			case 3:
				b = slices.Insert(b, at, slices.Clone(b[at:min(len(b), at+further)])...)
			}
		}
		asRead(t, "some bytes changed", b)
	}
}

// P6.1, R1: any bytes; no chunk has fewer than 10.
func TestAnyBytes(t *testing.T) {
	draw := rand.New(rand.NewSource(66))
	for range 20000 {
		b := make([]byte, draw.Intn(40))
		for i := range b {
			b[i] = byte(draw.Intn(1 + draw.Intn(256)))
		}
		asRead(t, "any bytes", b)
		if len(b) < 10 {
			refuses(t, "too few bytes", b)
		}
	}
	for _, n := range []int{api.MaxBlob - 1, api.MaxBlob, api.MaxBlob + 1, 1 << 20} {
		for _, x := range []byte{0, 1, 0x7f, 0x80, 0xff} {
			refuses(t, "many bytes", slices.Repeat([]byte{x}, n))
		}
	}
}

// roomy is the chunk, with room behind its ticks in which there are others.
func roomy(c *api.Chunk) *api.Chunk {
	d := clone(c)
	d.Ticks = append(slices.Clone(c.Ticks), everywhere(0, 500, 77)...)[:len(c.Ticks)]
	return d
}

// unlike turns the chunk into another one, the room behind its ticks, too.
func unlike(c *api.Chunk) {
	for i := range c.Cells {
		c.Cells[i].Kind, c.Cells[i].Level = ^c.Cells[i].Kind, ^c.Cells[i].Level
		c.Lights[i].Sky, c.Lights[i].Lamp = ^c.Lights[i].Sky, ^c.Lights[i].Lamp
	}
	ticks := c.Ticks[:cap(c.Ticks)]
	for i := range ticks {
		ticks[i] = api.Tick{At: ^ticks[i].At, Due: ^ticks[i].Due}
	}
}

// overwrite turns all bits over, those of the room behind, too.
func overwrite(b []byte) {
	b = b[:cap(b)]
	for i := range b {
		b[i] = ^b[i]
	}
}

// stayed tells that the chunk is as it was, the room behind its ticks, too.
func stayed(t *testing.T, what string, c, before *api.Chunk) {
	t.Helper()
	if !same(c, before) || !slices.Equal(c.Ticks[:cap(c.Ticks)], before.Ticks[:cap(c.Ticks)]) {
		t.Errorf("%s: the chunk has changed", what)
	}
}

// R4: what is handed to Put stays as it was, also when the answer is changed; and the answer, when the chunk is.
func TestPutNewMemory(t *testing.T) {
	for _, one := range chunks() {
		c, want := roomy(one), wantPut(one)
		before := clone(c)
		first, _ := Put(c)
		second, _ := Put(c)
		stayed(t, "behind Put", c, before)
		overwrite(second)
		stayed(t, "when the answer was changed", c, before)
		unlike(c)
		if !slices.Equal(first, want) {
			t.Error("the answer has changed with others")
		}
		turned := clone(c)
		cannot(t, "turned over", c, api.ErrArg)
		stayed(t, "when it could not be packed", c, turned)
	}
}

// R4: what is handed to Get, and the room behind, stays as it was, also when the answer is changed; and the answer, when others are.
func TestGetNewMemory(t *testing.T) {
	for _, c := range chunks() {
		b := wantPut(c)
		all := append(slices.Clone(b), slices.Repeat([]byte{0x5a}, 20)...)
		before := slices.Clone(all)
		first, _ := Get(all[:len(b)])
		second, _ := Get(all[:len(b)])
		Get(all[:len(b)-1])
		Get(all[:len(b)+1])
		if first == nil || second == nil || first == second {
			t.Fatal("Get answers no chunk, or one twice")
		}
		unlike(second)
		if !slices.Equal(all, before) {
			t.Error("the bytes have changed")
		}
		overwrite(all)
		if !same(first, c) {
			t.Error("the answer has changed with others")
		}
	}
}

// The chapter's examples.
func TestExamples(t *testing.T) {
	air := []byte{1, 0, 0, 0x80, 0x20, 0, 0x80, 0x20, 0, 0}
	puts(t, "all air", &api.Chunk{}, air)
	gets(t, "all air", air, &api.Chunk{})
	c := uniform(api.Cell{Kind: api.Air}, api.Light{Sky: 15})
	c.Cells[0], c.Lights[0] = api.Cell{Kind: api.Stone}, api.Light{}
	c.Ticks = []api.Tick{{At: 0, Due: 1}, {At: 2, Due: 300}}
	b := []byte{2, 2, 0, 0, 0, 1, 0, 0xff, 0x1f, 1, 1, 0, 0xff, 0x1f, 0xf0, 2, 0, 1, 1, 0xac, 2}
	puts(t, "stone in air", c, b)
	gets(t, "stone in air", b, c)
	torch, light := &api.Chunk{}, &api.Chunk{}
	torch.Cells[1234].Kind = api.Torch
	light.Lights[1234].Sky = 16
	cannot(t, "torch 0", torch, api.ErrArg)
	cannot(t, "a Sky of 16", light, api.ErrArg)
	cannot(t, "ticks", ticked(api.Tick{At: 3, Due: 1}, api.Tick{At: 3, Due: 2}), api.ErrArg)
	cannot(t, "nil", nil, api.ErrNil)
	refuses(t, "01 in the place of the last byte", append(slices.Clone(air[:9]), 1))
	refuses(t, "and 00", append(slices.Clone(air), 0))
	refuses(t, "without its last byte", air[:9])
	refuses(t, "01 0f 00", []byte{1, 15, 0, 0x80, 0x20, 0, 0x80, 0x20, 0, 0})
}
