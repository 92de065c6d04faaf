package chunk

import (
	"math"
	"math/rand"
	"slices"
	"testing"

	"bedrock/api"
)

// noIndexes are numbers that are no index.
var noIndexes = []int{-1, -2, -4096, math.MinInt64, 4096, 4097, 8191, 1 << 16, 1 << 32, math.MaxInt64}

// notDue are times at which nothing is due.
var notDue = []int64{0, -1, -1 << 41, math.MinInt64}

func wantIndex(n int) bool { return n >= 0 && n <= 4095 }

// wantDue is what the document says that Due answers.
func wantDue(l []api.Tick, index int) int64 {
	for _, t := range l {
		if wantIndex(index) && t.At == index {
			return t.Due
		}
	}
	return 0
}

// wantWake is what the document says that Wake makes of a list.
func wantWake(l []api.Tick, index int, due int64) []api.Tick {
	l = slices.Clone(l)
	if !wantIndex(index) || due < 1 {
		return l
	}
	for i, t := range l {
		if t.At == index {
			l[i].Due = min(t.Due, due)
			return l
		}
	}
	for i, t := range l {
		if t.At > index {
			return slices.Insert(l, i, api.Tick{At: index, Due: due})
		}
	}
	return append(l, api.Tick{At: index, Due: due})
}

// wantDrop is what the document says that Drop makes of a list.
func wantDrop(l []api.Tick, index int) []api.Tick {
	l = slices.Clone(l)
	for i, t := range l {
		if wantIndex(index) && t.At == index {
			return slices.Delete(l, i, i+1)
		}
	}
	return l
}

// wantReady is what the document says that Ready answers: each tick stands behind all that it does not go ahead of.
func wantReady(l []api.Tick, now int64) []api.Tick {
	var ready []api.Tick
	for _, t := range l {
		if t.Due > now {
			continue
		}
		i := len(ready)
		for i > 0 && (ready[i-1].Due > t.Due || ready[i-1].Due == t.Due && ready[i-1].At > t.At) {
			i--
		}
		ready = slices.Insert(ready, i, t)
	}
	return ready
}

func wantLeast(l []api.Tick) int64 {
	if len(l) == 0 {
		return 0
	}
	least := int64(math.MaxInt64)
	for _, t := range l {
		least = min(least, t.Due)
	}
	return least
}

// changes does something to the chunk, and tells whether its ticks are those by then, all else stayed, and, if they are others, stand in new memory.
func changes(t *testing.T, what string, c *api.Chunk, do func(), want []api.Tick) {
	t.Helper()
	before := recorded(c)
	do()
	if !slices.Equal(c.Ticks, want) {
		t.Errorf("%s: the ticks are %v, want %v", what, c.Ticks, want)
	}
	before.cellsStay(t, what, c)
	if slices.Equal(before.list, want) {
		return
	}
	overwrite(c.Ticks)
	before.cellsStay(t, what+", and the new list", c)
	overwrite(c.Ticks)
}

// wakes tells whether Wake makes of the chunk's ticks what it ought to.
func wakes(t *testing.T, c *api.Chunk, index int, due int64) {
	t.Helper()
	changes(t, "Wake", c, func() { Wake(c, index, due) }, wantWake(c.Ticks, index, due))
}

// drops tells whether Drop makes of the chunk's ticks what it ought to.
func drops(t *testing.T, c *api.Chunk, index int) {
	t.Helper()
	changes(t, "Drop", c, func() { Drop(c, index) }, wantDrop(c.Ticks, index))
}

// tells tells whether Due answers what it ought to.
func tells(t *testing.T, c *api.Chunk, index int) {
	t.Helper()
	if got, want := Due(c, index), wantDue(c.Ticks, index); got != want {
		t.Errorf("Due(%v, %d) = %d, want %d", c.Ticks, index, got, want)
	}
}

// readies tells whether Ready answers what it ought to.
func readies(t *testing.T, c *api.Chunk, now int64) {
	t.Helper()
	if got, want := Ready(c, now), wantReady(c.Ticks, now); !slices.Equal(got, want) {
		t.Errorf("Ready(%v, %d) = %v, want %v", c.Ticks, now, got, want)
	}
}

// rows goes over all rows of at most so many of these.
func rows[T any](of []T, most int, do func([]T)) {
	row := make([]T, 0, most)
	var longer func()
	longer = func() {
		do(row)
		if len(row) == most {
			return
		}
		for _, x := range of {
			row = append(row, x)
			longer()
			row = row[:len(row)-1]
		}
	}
	longer()
}

// R1, R3: nil, with all sorts of numbers.
func TestNil(t *testing.T) {
	for _, index := range slices.Concat(noIndexes, someIndexes) {
		for _, due := range slices.Concat(notDue, []int64{1, 1 << 41, math.MaxInt64}) {
			Wake(nil, index, due)
			if l := Ready(nil, due); len(l) != 0 {
				t.Errorf("Ready(nil, %d) = %v", due, l)
			}
		}
		Drop(nil, index)
		if due := Due(nil, index); due != 0 {
			t.Errorf("Due(nil, %d) = %d", index, due)
		}
	}
	if due := Least(nil); due != 0 {
		t.Errorf("Least(nil) = %d", due)
	}
}

// P7.3: numbers that are no index, of chunks that have no ticks, all of them, or some of those numbers as their ticks' At.
func TestNoIndex(t *testing.T) {
	var none []api.Tick
	for i, at := range noIndexes {
		none = append(none, api.Tick{At: at, Due: int64(10 + i)})
	}
	for _, l := range [][]api.Tick{nil, everywhere(5), none} {
		c := filled(roomy(l))
		for _, index := range noIndexes {
			before := recorded(c)
			for _, due := range []int64{math.MinInt64, 0, 1, 1 << 41, math.MaxInt64} {
				Wake(c, index, due)
				before.stays(t, "Wake of no index", c)
			}
			Drop(c, index)
			before.stays(t, "Drop of no index", c)
			if due := Due(c, index); due != 0 {
				t.Errorf("Due of no index = %d", due)
			}
		}
	}
}

// P7.3: a due time below 1.
func TestNotDue(t *testing.T) {
	for _, l := range [][]api.Tick{nil, everywhere(5), ticks([2]int64{0, 5}, [2]int64{4095, 5})} {
		c := filled(roomy(l))
		before := recorded(c)
		for _, index := range someIndexes {
			for _, due := range notDue {
				Wake(c, index, due)
				before.stays(t, "Wake at a time at which nothing is due", c)
			}
		}
	}
}

// P7.3: what is put in, made due earlier, and taken out, written out.
func TestWrittenOut(t *testing.T) {
	start := ticks([2]int64{3, 30}, [2]int64{8, 80}, [2]int64{9, 10})
	for _, x := range []struct {
		what  string
		index int
		due   int64
		want  []api.Tick
	}{
		{"at the front", 0, 7, ticks([2]int64{0, 7}, [2]int64{3, 30}, [2]int64{8, 80}, [2]int64{9, 10})},
		{"in the midst", 7, 7, ticks([2]int64{3, 30}, [2]int64{7, 7}, [2]int64{8, 80}, [2]int64{9, 10})},
		{"at the end", 4095, 7, ticks([2]int64{3, 30}, [2]int64{8, 80}, [2]int64{9, 10}, [2]int64{4095, 7})},
		{"beyond 2^41", 10, math.MaxInt64, ticks([2]int64{3, 30}, [2]int64{8, 80}, [2]int64{9, 10}, [2]int64{10, math.MaxInt64})},
		{"earlier, the first", 3, 29, ticks([2]int64{3, 29}, [2]int64{8, 80}, [2]int64{9, 10})},
		{"earlier, in the midst", 8, 1, ticks([2]int64{3, 30}, [2]int64{8, 1}, [2]int64{9, 10})},
		{"earlier, the last", 9, 9, ticks([2]int64{3, 30}, [2]int64{8, 80}, [2]int64{9, 9})},
		{"at the same time", 8, 80, start},
		{"later", 8, 81, start},
		{"much later", 3, math.MaxInt64, start},
	} {
		c := filled(roomy(start))
		changes(t, x.what, c, func() { Wake(c, x.index, x.due) }, x.want)
	}
	for index, want := range map[int][]api.Tick{
		3: start[1:], 8: ticks([2]int64{3, 30}, [2]int64{9, 10}), 9: start[:2], 0: start, 4: start, 7: start, 10: start, 4095: start,
	} {
		c := filled(roomy(start))
		changes(t, "Drop", c, func() { Drop(c, index) }, want)
	}
	for index, want := range map[int]int64{3: 30, 8: 80, 9: 10, 0: 0, 2: 0, 4: 0, 10: 0, 4095: 0} {
		if got := Due(filled(start), index); got != want {
			t.Errorf("Due at %d = %d, want %d", index, got, want)
		}
	}
}

// P7.3: an index that stands in the list twice, and lists whose At do not rise, written out.
func TestWrittenOutAnyOrder(t *testing.T) {
	twice := ticks([2]int64{5, 9}, [2]int64{5, 4}, [2]int64{6, 1})
	c := filled(roomy(twice))
	if due := Due(c, 5); due != 9 {
		t.Errorf("Due of an index with two ticks = %d", due)
	}
	changes(t, "the second one due earlier", c, func() { Wake(c, 5, 6) }, ticks([2]int64{5, 6}, [2]int64{5, 4}, [2]int64{6, 1}))
	changes(t, "the second one due later", c, func() { Wake(c, 5, 2) }, ticks([2]int64{5, 2}, [2]int64{5, 4}, [2]int64{6, 1}))
	changes(t, "the first one gone", c, func() { Drop(c, 5) }, twice[1:])
	changes(t, "both gone", c, func() { Drop(c, 5) }, twice[2:])
	falling := ticks([2]int64{9, 1}, [2]int64{2, 2}, [2]int64{7, 3}, [2]int64{4, 4})
	for _, x := range []struct{ index, at int }{{0, 0}, {3, 0}, {8, 0}, {10, 4}} {
		c := filled(roomy(falling))
		want := slices.Insert(slices.Clone(falling), x.at, api.Tick{At: x.index, Due: 6})
		changes(t, "put in where the At do not rise", c, func() { Wake(c, x.index, 6) }, want)
	}
	c = filled(roomy(falling))
	changes(t, "found where the At do not rise", c, func() { Wake(c, 4, 3) }, ticks([2]int64{9, 1}, [2]int64{2, 2}, [2]int64{7, 3}, [2]int64{4, 3}))
	changes(t, "gone where the At do not rise", c, func() { Drop(c, 7) }, ticks([2]int64{9, 1}, [2]int64{2, 2}, [2]int64{4, 3}))
}

// P7.3: all short lists, whether they may be or not.
func TestShortLists(t *testing.T) {
	var of []api.Tick
	for _, at := range []int{-1, 0, 4094, 4095, 4096} {
		for _, due := range []int64{-2, 2, 4} {
			of = append(of, api.Tick{At: at, Due: due})
		}
	}
	c := filled(nil)
	rows(of, 3, func(l []api.Tick) {
		for _, index := range []int{-1, 0, 1, 4094, 4095, 4096} {
			for _, due := range []int64{-3, 0, 1, 2, 3, 5} {
				c.Ticks = roomy(l)
				wakes(t, c, index, due)
			}
			c.Ticks = roomy(l)
			tells(t, c, index)
			drops(t, c, index)
		}
	})
}

// P7.3: chunks that have ticks at all indexes, and get or lose one anywhere.
func TestFullLists(t *testing.T) {
	for _, index := range someIndexes {
		c := filled(roomy(everywhere(50)))
		tells(t, c, index)
		wakes(t, c, index, 51)
		wakes(t, c, index, 49)
		tells(t, c, index)
		drops(t, c, index)
		tells(t, c, index)
		drops(t, c, index)
		wakes(t, c, index, 1<<41)
		tells(t, c, index)
		wakes(t, c, index, 1)
		if len(c.Ticks) != 4096 || c.Ticks[index] != (api.Tick{At: index, Due: 1}) {
			t.Errorf("at %d: the tick that was put in again is %v", index, c.Ticks[index])
		}
	}
	c := wild()
	for _, index := range append(someIndexes, 7) {
		wakes(t, c, index, 3)
		tells(t, c, index)
		drops(t, c, index)
	}
}

// P7.4: all short lists, in any order.
func TestReadyShortLists(t *testing.T) {
	var of []api.Tick
	for _, at := range []int{3, 4, 4096} {
		for _, due := range []int64{-1, 5, 6} {
			of = append(of, api.Tick{At: at, Due: due})
		}
	}
	c := filled(nil)
	rows(of, 4, func(l []api.Tick) {
		c.Ticks = l
		before := slices.Clone(l)
		for _, now := range []int64{math.MinInt64, -2, -1, 0, 4, 5, 6, 7, math.MaxInt64} {
			readies(t, c, now)
		}
		if got, want := Least(c), wantLeast(l); got != want {
			t.Errorf("Least(%v) = %d, want %d", l, got, want)
		}
		if !slices.Equal(c.Ticks, before) {
			t.Errorf("the chunk's list was %v, is %v", before, c.Ticks)
		}
	})
}

// P7.4: long lists, drawn, with many that are due at the same time.
func TestReadyLongLists(t *testing.T) {
	draw := rand.New(rand.NewSource(7))
	for range 200 {
		var l []api.Tick
		for range draw.Intn(300) {
			l = append(l, api.Tick{At: draw.Intn(1 + draw.Intn(4096)), Due: 1 + draw.Int63n(int64(1+draw.Intn(40)))})
		}
		c := filled(roomy(l))
		before := recorded(c)
		for now := int64(0); now < 42; now++ {
			readies(t, c, now)
		}
		if got, want := Least(c), wantLeast(l); got != want {
			t.Errorf("Least = %d, want %d", got, want)
		}
		before.stays(t, "behind Ready and Least", c)
	}
}

// P7.4: times of all sizes.
func TestReadyAtAnyTime(t *testing.T) {
	c := filled(ticks([2]int64{9, 1 << 41}, [2]int64{2, math.MaxInt64}, [2]int64{4, math.MinInt64}, [2]int64{1, 1}, [2]int64{7, 1 << 32}, [2]int64{3, 0}))
	for _, now := range []int64{math.MinInt64, -1, 0, 1, 1<<32 - 1, 1 << 32, 1<<41 - 1, 1 << 41, 1<<41 + 1, math.MaxInt64 - 1, math.MaxInt64} {
		readies(t, c, now)
	}
	if l := Ready(c, math.MaxInt64); len(l) != 6 || l[0].At != 4 || l[5].At != 2 {
		t.Errorf("Ready of all times = %v", l)
	}
	if due := Least(c); due != math.MinInt64 {
		t.Errorf("Least of all times = %d", due)
	}
	for _, l := range [][]api.Tick{nil, {}} {
		for _, now := range []int64{math.MinInt64, 0, math.MaxInt64} {
			if got := Ready(filled(l), now); len(got) != 0 {
				t.Errorf("Ready without ticks = %v", got)
			}
		}
		if due := Least(filled(l)); due != 0 {
			t.Errorf("Least without ticks = %d", due)
		}
	}
	for _, due := range []int64{1, 1 << 41, math.MaxInt64} {
		if got := Least(filled(everywhere(due))); got != due {
			t.Errorf("Least of ticks that are due at %d = %d", due, got)
		}
	}
}

// P7.4, P7.7: what Ready answers may be changed without changing the chunk, and stays when the chunk is changed.
func TestReadyNewMemory(t *testing.T) {
	for _, l := range [][]api.Tick{ticks([2]int64{3, 5}), ticks([2]int64{3, 5}, [2]int64{4, 5}), ticks([2]int64{4, 5}, [2]int64{3, 6}), everywhere(5)} {
		c := filled(roomy(l))
		before := recorded(c)
		first, second := Ready(c, 9), Ready(c, 9)
		overwrite(second)
		before.stays(t, "when what is ready was changed", c)
		overwrite(c.Ticks)
		if !slices.Equal(first, wantReady(l, 9)) {
			t.Error("what is ready has changed with others")
		}
	}
}

// history is, of each index, the least due of the Wakes since its last Drop: 0, if there was none.
type history [4096]int64

func (h *history) wake(index int, due int64) {
	if wantIndex(index) && due >= 1 && (h[index] == 0 || due < h[index]) {
		h[index] = due
	}
}

func (h *history) drop(index int) {
	if wantIndex(index) {
		h[index] = 0
	}
}

func (h *history) ticks() []api.Tick {
	var l []api.Tick
	for at, due := range h {
		if due > 0 {
			l = append(l, api.Tick{At: at, Due: due})
		}
	}
	return l
}

// holds tells whether the chunk is one of air that has just these ticks, and all calls tell them.
func (h *history) holds(t *testing.T, c *api.Chunk) {
	t.Helper()
	want := h.ticks()
	if !slices.Equal(c.Ticks, want) || c.Cells != [4096]api.Cell{} || c.Lights != [4096]api.Light{} {
		t.Fatalf("the ticks are %v, want %v, or cells or lights have changed", c.Ticks, want)
	}
	for _, at := range someIndexes {
		if due := Due(c, at); due != h[at] {
			t.Errorf("Due at %d = %d, want %d", at, due, h[at])
		}
	}
	if due := Least(c); due != wantLeast(want) {
		t.Errorf("Least = %d, want %d", due, wantLeast(want))
	}
}

// deed is a Wake, or a Drop, if it is due at no time.
type deed struct {
	index int
	due   int64
}

func (d deed) do(c *api.Chunk, h *history) {
	if d.due == 0 {
		Drop(c, d.index)
		h.drop(d.index)
	} else {
		Wake(c, d.index, d.due)
		h.wake(d.index, d.due)
	}
}

// P7.6: all short rows of Wakes and Drops of three indexes.
func TestShortHistories(t *testing.T) {
	var of []deed
	for _, index := range []int{0, 15, 4095} {
		for due := range int64(4) {
			of = append(of, deed{index, due})
		}
	}
	rows(of, 4, func(l []deed) {
		c, h := New(), &history{}
		for _, d := range l {
			d.do(c, h)
		}
		h.holds(t, c)
	})
}

// P7.6: long rows of Wakes and Drops, drawn, some of them of no index or at no time.
func TestLongHistories(t *testing.T) {
	draw := rand.New(rand.NewSource(77))
	for range 60 {
		c, h := New(), &history{}
		wide, late, often := 1+draw.Intn(4096), 1+draw.Int63n(1<<draw.Intn(42)), 1+draw.Intn(8)
		for i := range 2000 {
			d := deed{draw.Intn(wide), 1 + draw.Int63n(late)}
			switch draw.Intn(often + 8) {
			case 0:
				d.due = -d.due
			case 1:
				d.index = noIndexes[draw.Intn(len(noIndexes))]
			case 2, 3, 4:
				d.due = 0
			}
			d.do(c, h)
			if i%50 == 0 {
				h.holds(t, c)
			}
		}
		h.holds(t, c)
		if e := Check(c); e != api.OK {
			t.Errorf("Check = %d", e)
		}
	}
}

// P7.6: all indexes, in rising, falling and any order, woken and dropped.
func TestFullHistories(t *testing.T) {
	for _, step := range []int{1, 4095, 1103} {
		c, h := New(), &history{}
		for i := range 4096 {
			deed{i * step % 4096, int64(1 + i%7)}.do(c, h)
		}
		h.holds(t, c)
		if len(c.Ticks) != 4096 {
			t.Errorf("%d ticks, want 4096", len(c.Ticks))
		}
		for i := range 4096 {
			deed{(i + 9) * step % 4096, 0}.do(c, h)
			if i%500 == 0 {
				h.holds(t, c)
			}
		}
		h.holds(t, c)
		sames(t, "all gone again", c, New(), true)
	}
}

// The chapter's examples.
func TestExamples(t *testing.T) {
	c := New()
	checks(t, "New", c, api.OK)
	checks(t, "nil", nil, api.ErrNil)
	sames(t, "New and New", c, New(), true)
	sames(t, "New and nil", c, nil, false)
	sames(t, "nil and nil", nil, nil, true)
	for _, d := range []deed{{9, 5}, {3, 7}, {9, 6}, {9, 4}, {4096, 1}, {1, 0}} {
		Wake(c, d.index, d.due)
	}
	if want := ticks([2]int64{3, 7}, [2]int64{9, 4}); !slices.Equal(c.Ticks, want) {
		t.Errorf("the ticks are %v, want %v", c.Ticks, want)
	}
	if a, b, d, e := Due(c, 9), Due(c, 4), Due(c, -1), Least(c); a != 4 || b != 0 || d != 0 || e != 4 {
		t.Errorf("Due = %d, %d, %d, Least = %d, want 4, 0, 0, 4", a, b, d, e)
	}
	if l := Ready(c, 3); len(l) != 0 {
		t.Errorf("Ready at 3 = %v", l)
	}
	if l, want := Ready(c, 7), ticks([2]int64{9, 4}, [2]int64{3, 7}); !slices.Equal(l, want) {
		t.Errorf("Ready at 7 = %v, want %v", l, want)
	}
	Drop(c, 9)
	Drop(c, 9)
	if want := ticks([2]int64{3, 7}); !slices.Equal(c.Ticks, want) || Least(c) != 7 {
		t.Errorf("the ticks are %v, Least %d, want %v, 7", c.Ticks, Least(c), want)
	}
	c.Cells[0].Kind, c.Cells[4095].Kind = api.Stone, api.Glass
	if n := Movable(c); n != 2 {
		t.Errorf("Movable = %d, want 2", n)
	}
	torch, light := New(), New()
	torch.Cells[1234].Kind, light.Lights[1234].Lamp = api.Torch, 16
	checks(t, "torch 0", torch, api.ErrKind)
	checks(t, "a light 16", light, api.ErrArg)
	for _, l := range [][]api.Tick{ticks([2]int64{3, 1}, [2]int64{3, 2}), ticks([2]int64{4096, 1}), ticks([2]int64{1, 0})} {
		checks(t, "ticks", &api.Chunk{Ticks: l}, api.ErrForm)
	}
}
