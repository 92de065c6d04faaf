package sector

import (
	"math"
	"math/rand/v2"
	"slices"
	"sync"
	"testing"

	"bedrock/api"
)

// script draws disks' calls: of few sectors, so that they are written often.
type script struct {
	r       *rand.Rand
	sectors []int
	disks   []both
}

func drawnScript(t *testing.T, r *rand.Rand) *script {
	t.Helper()
	s := &script{r: r, sectors: []int{0, 255}}
	for range r.IntN(8) {
		s.sectors = append(s.sectors, r.IntN(256))
	}
	s.disks = []both{made(t, 256+r.IntN(2))}
	return s
}

// step does one call to one of the disks.
func (s *script) step(t *testing.T) {
	t.Helper()
	b := s.disks[s.r.IntN(len(s.disks))]
	switch s.r.IntN(20) {
	case 0:
		b.mark()
	case 1:
		s.keep(b.copy(t))
	case 2:
		s.keep(b.cut(t, s.r.IntN(b.d.Writes()+1)))
	case 3:
		if e := b.d.Write(noSectors[s.r.IntN(len(noSectors))]|1<<40, someData(s.r)); e != api.ErrArg {
			t.Fatalf("Write to no sector = %d", e)
		}
	case 4:
		if e := b.d.Write(s.sectors[0], blank+someData(s.r)+"x"); e != api.ErrLong {
			t.Fatalf("Write of too much = %d", e)
		}
	default:
		b.write(t, s.sectors[s.r.IntN(len(s.sectors))], someData(s.r))
	}
}

// keep takes one disk more, in the place of another one, if there are many.
func (s *script) keep(b both) {
	if len(s.disks) < 5 {
		s.disks = append(s.disks, b)
	} else {
		s.disks[s.r.IntN(5)] = b
	}
}

// P20.6: drawn scripts over several disks, against the account of all writes.
func TestDrawnScripts(t *testing.T) {
	for seed := range 60 {
		s := drawnScript(t, drawer(100+uint64(seed)))
		for i := range 150 {
			s.step(t)
			if i%5 == 0 {
				for _, b := range s.disks {
					b.alike(t, "a drawn call")
				}
			}
		}
	}
}

// holdsCuts tells whether the disk, cut at each k, is as the account says, and, written with the rest of the log, has the same sectors again.
func (b both) holdsCuts(t *testing.T) {
	t.Helper()
	log := b.d.Log()
	for k := range len(log) + 1 {
		c := b.cut(t, k)
		c.alike(t, "Cut")
		for _, w := range log[k:] {
			c.write(t, w.At, w.Data)
		}
		c.alike(t, "Cut, and the rest of the log")
		if !slices.Equal(c.d.Log(), log[k:]) {
			t.Fatalf("cut at %d, and written with the rest of the log: another log", k)
		}
		if !slices.Equal(c.d.Used(), b.d.Used()) {
			t.Fatalf("cut at %d, and written with the rest of the log: Used() = %v, not %v", k, c.d.Used(), b.d.Used())
		}
		for i := range b.d.Len() {
			x, _ := c.d.Read(i)
			y, _ := b.d.Read(i)
			if x != y {
				t.Fatalf("cut at %d, and written with the rest of the log: the sector %d is %s, not %s", k, i, short(x), short(y))
			}
		}
	}
	b.alike(t, "cuts of it")
}

// P20.6: cut at 0, at each k and at Writes, and then written with the rest of the log, over drawn scripts.
func TestDrawnCuts(t *testing.T) {
	for seed := range 40 {
		s := drawnScript(t, drawer(300+uint64(seed)))
		for range 60 {
			s.step(t)
		}
		for _, b := range s.disks {
			b.holdsCuts(t)
		}
	}
}

// P20.6: the whole log, written to what stood at the mark, is the disk; all writes, written to a new one, too.
func TestAllWritesAgain(t *testing.T) {
	for seed := range 40 {
		s := drawnScript(t, drawer(500+uint64(seed)))
		for range 80 {
			s.step(t)
		}
		for _, b := range s.disks {
			again := made(t, b.d.Len())
			for _, w := range b.a.all {
				again.write(t, w.At, w.Data)
			}
			again.alike(t, "all writes again")
			if !slices.Equal(again.d.Used(), b.d.Used()) {
				t.Fatalf("all writes again: Used() = %v, not %v", again.d.Used(), b.d.Used())
			}
		}
	}
}

// P20.6: losses of power one behind the other: cut, written to, cut again.
func TestCutAgainAndAgain(t *testing.T) {
	r := drawer(6)
	for range 60 {
		b := made(t, 256)
		for range 25 {
			for range r.IntN(6) {
				b.write(t, r.IntN(5), someData(r))
			}
			if r.IntN(4) == 0 {
				b.mark()
			}
			b = b.cut(t, r.IntN(b.d.Writes()+1))
			b.alike(t, "cuts, one behind the other")
		}
	}
}

// R1, R2: no call panics, whatever numbers it is given; what is refused answers zero values.
func TestAnyNumbers(t *testing.T) {
	r := drawer(7)
	b := made(t, 300)
	for range 20000 {
		i := int(r.Uint64()) >> r.IntN(64)
		if r.IntN(50) == 0 {
			i = []int{math.MinInt, math.MaxInt, -1, 0, 299, 300}[r.IntN(6)]
		}
		is := i >= 0 && i < 300
		if s, e := b.d.Read(i); (e == api.OK) != is || !is && (s != "" || e != api.ErrArg) {
			t.Fatalf("Read(%d) = %s, %d", i, short(s), e)
		}
		if e := b.d.Write(i, "x"); (e == api.OK) != is || !is && e != api.ErrArg {
			t.Fatalf("Write(%d) = %d", i, e)
		}
		if c, e := b.d.Cut(i); (e == api.OK) != (i >= 0 && i <= b.d.Writes()) || (e == api.OK) != (c != nil) {
			t.Fatalf("Cut(%d) of %d = %v, %d", i, b.d.Writes(), c, e)
		}
		if b.d.Writes() > 30 {
			b.d.Mark()
		}
		d, e := New(i)
		if (e == api.OK) != (i >= 256 && i <= 1<<17) || (e == api.OK) != (d != nil) {
			t.Fatalf("New(%d) = %v, %d", i, d, e)
		}
	}
}

// R6: two disks to which the same was done answer the same, also those that are asked at once.
func TestTheSameTwice(t *testing.T) {
	run := func() []any {
		var l []any
		r := drawer(8)
		d, _ := New(256)
		for range 400 {
			l = append(l, d.Write(r.IntN(260)-2, someData(r)))
			l = append(l, d.Writes())
			for _, i := range d.Used() {
				s, e := d.Read(i)
				l = append(l, i, s, e)
			}
			if r.IntN(10) == 0 {
				d, _ = d.Cut(r.IntN(d.Writes() + 1))
			}
			if r.IntN(10) == 0 {
				for _, w := range d.Log() {
					l = append(l, w)
				}
				d.Mark()
			}
		}
		return l
	}
	first := run()
	var wait sync.WaitGroup
	for range 4 {
		wait.Go(func() {
			if !slices.Equal(run(), first) {
				t.Error("the same calls are answered otherwise")
			}
		})
	}
	wait.Wait()
}
