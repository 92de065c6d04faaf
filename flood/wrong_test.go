package flood

import (
	"fmt"
	"slices"
	"strconv"
	"testing"

	"bedrock/api"
)

// liar is a field whose light need not be right: it tells the cells of a world, and lights by a function of its own, and keeps what it is told or does not.
type liar struct {
	diary
	cell  func(p api.Place) api.Cell
	light func(p api.Place) api.Light
	keep  func(p api.Place, l api.Light)
}

func (f *liar) Cell(p api.Place) api.Cell {
	f.ask("Cell", p)
	return f.cell(p)
}

func (f *liar) Light(p api.Place) api.Light {
	f.ask("Light", p)
	return f.light(p)
}

func (f *liar) Lit(p api.Place, l api.Light) {
	f.tell(p, l)
	if f.keep != nil {
		f.keep(p, l)
	}
}

// changes calls Change, and tells where it told what it ought not to: the diary holds what is told against places and 15.
func (f *liar) changes(p api.Place, old api.Cell) {
	f.t.Helper()
	f.asked, f.told = nil, nil
	n := Change(f, p, old)
	if n != len(f.told) {
		f.t.Errorf("at %v, %v: %d, but %d lights are told", p, old, n, len(f.told))
	}
	if len(f.asked) > 1<<18 {
		f.t.Errorf("at %v, %v: the field is asked %d times", p, old, len(f.asked))
	}
	for _, q := range f.asked {
		if apart(q.X, p.X)+apart(q.Z, p.Z) > 15 {
			f.t.Fatalf("at %v, %v: the field is asked of %v", p, old, q)
		}
	}
	if f.t.Failed() {
		f.t.Fatalf("at %v, %v", p, old)
	}
}

// lights is what tells lights, with a name.
type lights struct {
	name string
	tell func(p api.Place) api.Light
}

// lightsAtRandom are such as tell of each place lights below the number, always the same.
func lightsAtRandom(seed uint64, below int) lights {
	r, kept := draw(seed), map[api.Place]api.Light{}
	return lights{"at random, below " + strconv.Itoa(below), func(p api.Place) api.Light {
		if _, ok := kept[p]; !ok {
			kept[p] = lit(uint8(r.IntN(below)), uint8(r.IntN(below)))
		}
		return kept[p]
	}}
}

// lightsOtherwise are such as tell others each time, below the number.
func lightsOtherwise(seed uint64, below int) lights {
	r := draw(seed)
	return lights{"otherwise each time, below " + strconv.Itoa(below), func(api.Place) api.Light {
		return lit(uint8(r.IntN(below)), uint8(r.IntN(below)))
	}}
}

// wrongLights tell lights which are not right in most worlds.
func wrongLights(seed uint64) []lights {
	var l []lights
	for _, all := range []api.Light{lit(15, 15), lit(14, 14), lit(1, 1), lit(0, 0), lit(16, 16), lit(255, 255), lit(15, 0), lit(0, 15), lit(200, 0)} {
		l = append(l, lights{fmt.Sprint(all, " all over"), func(api.Place) api.Light { return all }})
	}
	for i, below := range []int{16, 20, 256} {
		l = append(l, lightsAtRandom(seed+uint64(2*i), below), lightsOtherwise(seed+uint64(2*i+1), below))
	}
	// These lead on and on, for one who goes from each place to a side that is darker by one, or brighter.
	return append(l,
		lights{"rising east", func(p api.Place) api.Light { return lit(uint8(p.X&15), uint8(p.X)) }},
		lights{"rising, falling", func(p api.Place) api.Light { return lit(uint8(p.Y&15), uint8(15-p.Y&15)) }},
		lights{"falling from 255 on", func(p api.Place) api.Light {
			return lit(uint8(255-apart(p.X, 0)-apart(p.Y, 20)-apart(p.Z, 0)), uint8(255-apart(p.X, 0)-apart(p.Y, 30)-apart(p.Z, 0)))
		}},
		lights{"14 and more", func(p api.Place) api.Light {
			return lit(uint8(14+(p.X+p.Y+p.Z)&3), uint8(14+(p.X+2*p.Y+p.Z)&3))
		}},
	)
}

// manyCells are functions that tell cells, the last two otherwise each time.
func manyCells(seed uint64) []func(p api.Place) api.Cell {
	r := draw(seed)
	var l []func(p api.Place) api.Cell
	for _, all := range []api.Cell{air, stone, torch(15), torch(1), {Kind: 11, Level: 99}} {
		l = append(l, func(api.Place) api.Cell { return all })
	}
	return append(l,
		func(p api.Place) api.Cell { return landCell(p.Y) },
		func(p api.Place) api.Cell {
			if p.Y == 63 {
				return stone
			}
			return air
		},
		func(p api.Place) api.Cell {
			return sorts()[uint(p.X*p.X+5*p.Y*p.Y+p.Z*(p.X+7))%uint(len(sorts()))]
		},
		func(p api.Place) api.Cell { return one(r, sorts()) },
		func(p api.Place) api.Cell {
			return one(r, []api.Cell{air, air, air, air, air, air, air, stone, torch(15), torch(2)})
		},
	)
}

// P11.2: whatever the field tells, and whether it keeps what it is told: the call ends, what is told is told to places, and none above 15.
func TestWhateverItIs(t *testing.T) {
	t.Parallel()
	places := []api.Place{at(0, 20, 0), at(0, 0, 0), at(0, 63, 0), at(1, 48, -1), at(-edge, 30, edge-1), at(edge-1, 63, -edge)}
	olds := []api.Cell{air, stone, torch(15), torch(3), wrong[3]}
	for i, cell := range manyCells(21) {
		for _, light := range wrongLights(22) {
			for _, p := range places {
				for _, old := range olds {
					f := &liar{diary: diary{t: t}, cell: cell, light: light.tell}
					f.changes(p, old)
					if t.Failed() {
						t.Fatalf("cells: %d; lights: %s", i, light.name)
					}
				}
			}
		}
	}
}

// P11.2: fields that keep what they are told go on to be wrong, or become right: the same holds, change by change.
func TestWrongAndKept(t *testing.T) {
	t.Parallel()
	r := draw(23)
	for i, mixture := range mixtures() {
		for _, most := range []int{16, 18, 256} {
			w := random(t, uint64(4000+i), at(0, 0, edge-9), 9, 9, mixture)
			for k := range w.lights {
				w.lights[k] = lit(uint8(r.IntN(most)), uint8(r.IntN(most)))
			}
			f := &liar{diary: diary{t: t}, cell: w.cell, light: w.light, keep: func(p api.Place, l api.Light) {
				if i, ok := w.number(p); ok {
					w.lights[i] = l
				}
			}}
			for range 60 {
				p := w.place(r.IntN(w.wide), r.IntN(high), r.IntN(w.deep))
				f.changes(p, w.put(p, one(r, append(slices.Clone(mixture), sorts()...))))
			}
		}
	}
}

// P11.2: the field's light would be right with another cell there than the one that is handed in.
func TestWrongOld(t *testing.T) {
	t.Parallel()
	r := draw(24)
	for i, mixture := range mixtures() {
		w := random(t, uint64(5000+i), at(-4, 0, -4), 9, 9, mixture)
		for range 80 {
			p := w.place(r.IntN(w.wide), r.IntN(high), r.IntN(w.deep))
			f := &liar{diary: diary{t: t}, cell: w.cell, light: w.light}
			f.changes(p, one(r, sorts()))
		}
	}
}

// P11.3: also where the light is not right, no more is asked of than what is near, as far as it can be told from there: at less than sixteen steps from the sky cells tell it, further down lights that do not agree.
func TestNearWhereWrong(t *testing.T) {
	t.Parallel()
	r := draw(25)
	for i := range 40 {
		w := random(t, uint64(6000+i), at(-16, 0, -16), 33, 33, one(r, mixtures()))
		for _, light := range wrongLights(26) {
			nearWhereWrong(w, light, at(0, 48+r.IntN(16), 0), one(r, sorts()))
		}
		for _, below := range []int{16, 20, 256} {
			nearWhereWrong(w, lightsAtRandom(27, below), at(0, r.IntN(high), 0), one(r, sorts()))
		}
	}
}

func nearWhereWrong(w *world, light lights, p api.Place, old api.Cell) {
	w.t.Helper()
	f := &liar{diary: diary{t: w.t}, cell: w.cell, light: light.tell}
	f.changes(p, old)
	w.asked = f.asked
	w.stays(p, old)
}

// P11.3: a roof as far up as may be asked shuts the column, also where all lights tell that it is open.
func TestRoofFarUp(t *testing.T) {
	for _, roof := range []int{0, 1, 2, 13, 14, 15} {
		w := newWorld(t, at(-16, 0, -16), 33, 33, false, func(x, y, z int) api.Cell {
			if y == 48+roof {
				return stone
			}
			return air
		})
		f := &liar{diary: diary{t: t}, cell: w.cell, light: func(api.Place) api.Light { return lit(15, 15) }}
		for _, old := range []api.Cell{air, stone} {
			p := at(0, 48, 0)
			f.changes(p, old)
			w.asked = f.asked
			w.stays(p, old)
		}
	}
}

// P11.3: where a roof is too far up to be asked for, one light that does not agree is enough for no more to be asked of than what is near; were all of them to agree, the roof could not be told from the sky.
func TestOneLightDisagrees(t *testing.T) {
	w := newWorld(t, at(-16, 0, -16), 33, 33, false, func(x, y, z int) api.Cell {
		if y == 63 {
			return stone
		}
		return air
	})
	for y := 16; y < 48; y += 3 {
		p := at(0, y, 0)
		for up := 1; up <= 15; up++ {
			for _, sky := range []uint8{0, 1, 14, 16, 200, 255} {
				light := lights{"one that does not agree", func(q api.Place) api.Light {
					if q == at(0, y+up, 0) {
						return lit(sky, 0)
					}
					return lit(15, 0)
				}}
				nearWhereWrong(w, light, p, stone)
			}
		}
	}
}

// panics is a field that panics once it was called so many times.
type panics struct {
	*world
	left int
}

func (f *panics) count() {
	if f.left == 0 {
		panic("a field's own")
	}
	f.left--
}

func (f *panics) Cell(p api.Place) api.Cell {
	f.count()
	return f.world.Cell(p)
}

func (f *panics) Light(p api.Place) api.Light {
	f.count()
	return f.world.Light(p)
}

func (f *panics) Lit(p api.Place, l api.Light) {
	f.count()
	f.world.Lit(p, l)
}

// R1: a field that panics does not make the call panic: the answer is how many lights were told until then.
func TestPanics(t *testing.T) {
	var none *world
	if n := Change(none, at(0, 20, 0), stone); n != 0 {
		t.Errorf("of a nil pointer: %d", n)
	}
	first := filled(t, 3, 3, air)
	old := first.put(at(1, 20, 1), stone)
	for left := range 1000 {
		w := first.copied()
		f := &panics{w, left}
		n := Change(f, at(1, 20, 1), old)
		if n != len(w.told) {
			t.Errorf("with %d calls: %d, but %d lights are told", left, n, len(w.told))
		}
		if f.left > 0 {
			if n != 21 {
				t.Errorf("in the end: %d", n)
			}
			return
		}
	}
	t.Error("the call goes on and on")
}
