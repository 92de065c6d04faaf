package sector

import (
	"math"
	"slices"
	"strings"
	"testing"

	"bedrock/api"
)

// histories are disks with and without a mark, with sectors that were written ahead of it and behind it, once and often, and with bytes 0 over others and others over bytes 0.
func histories(t *testing.T) []both {
	t.Helper()
	type step struct {
		at   int
		data string
	}
	steps := []step{{3, "a"}, {3, "b"}, {5, "c"}, {3, ""}, {5, "c"}, {255, filled("d")}, {0, "e"}, {3, "f"}, {3, blank}, {7, ""}, {0, "\x00e"}, {255, ""}, {7, "g"}, {5, "cc"}}
	var l []both
	for mark := -1; mark <= len(steps); mark++ {
		b := made(t, 256)
		for i, s := range steps {
			if i == mark {
				b.mark()
			}
			b.write(t, s.at, s.data)
		}
		if mark == len(steps) {
			b.mark()
		}
		l = append(l, b)
	}
	twice := made(t, 256)
	for i, s := range slices.Concat(steps, steps, steps) {
		if i == 5 || i == 20 {
			twice.mark()
		}
		twice.write(t, s.at, s.data)
	}
	return append(l, made(t, 256), made(t, 257), twice)
}

// P20.4: cut at each number of writes; this disk stays as it is.
func TestCut(t *testing.T) {
	for _, b := range histories(t) {
		for k := range b.d.Writes() + 1 {
			c := b.cut(t, k)
			if c.d == b.d {
				t.Fatal("Cut answers the disk itself")
			}
			c.alike(t, "Cut")
			if c.d.Writes() != 0 || len(c.d.Log()) != 0 {
				t.Fatalf("cut at %d there are %d writes", k, c.d.Writes())
			}
			b.alike(t, "a Cut of it")
		}
		for k := b.d.Writes(); k >= 0; k-- {
			b.cut(t, k).alike(t, "Cut, once more")
		}
	}
}

// P20.4: numbers at which there is no cut.
func TestCutRefuses(t *testing.T) {
	for _, b := range histories(t) {
		n := b.d.Writes()
		for _, k := range []int{-1, -2, -n, -n - 1, -256, math.MinInt, math.MinInt + 1, math.MinInt32, n + 1, n + 2, 2*n + 1, len(b.a.all) + 1, 1 << 17, math.MaxInt32, 1<<32 + n, math.MaxInt, math.MaxInt - 1} {
			if k == 0 {
				continue
			}
			if c, e := b.d.Cut(k); c != nil || e != api.ErrArg {
				t.Fatalf("Cut(%d) of %d writes = %v, %d", k, n, c, e)
			}
		}
		b.alike(t, "a Cut that is none")
	}
}

// P20.4: what stands ahead of the mark can't be cut away, how many writes that ever were.
func TestCutAheadOfMark(t *testing.T) {
	b := made(t, 256)
	for i := range 10 {
		b.write(t, i, "x")
	}
	b.mark()
	for k := 1; k <= 10; k++ {
		if c, e := b.d.Cut(k); c != nil || e != api.ErrArg {
			t.Fatalf("Cut(%d) = %v, %d", k, c, e)
		}
	}
	b.cut(t, 0).alike(t, "Cut at the mark")
}

// P20.4: a cut disk can be written to, marked, cut and copied itself.
func TestCutIsADisk(t *testing.T) {
	for _, b := range histories(t) {
		for k := range b.d.Writes() + 1 {
			c := b.cut(t, k)
			c.write(t, 3, "new")
			c.write(t, 250, "newer")
			c.write(t, 0, "")
			for j := range 4 {
				c.cut(t, j).alike(t, "Cut of a cut disk")
			}
			if d, e := c.d.Cut(4); d != nil || e != api.ErrArg {
				t.Fatalf("Cut(4) of a cut disk with 3 writes = %v, %d", d, e)
			}
			c.copy(t).alike(t, "Copy of a cut disk")
			c.mark()
			c.alike(t, "Mark of a cut disk")
			c.cut(t, 0).alike(t, "Cut of a cut disk that was marked")
		}
		b.alike(t, "what was done to those that were cut")
	}
}

// P20.4: a copy has the same sectors and writes, and can be cut at each of them as the first one.
func TestCopy(t *testing.T) {
	for _, b := range histories(t) {
		c := b.copy(t)
		if c.d == b.d {
			t.Fatal("Copy answers the disk itself")
		}
		c.alike(t, "Copy")
		for k := range b.d.Writes() + 1 {
			c.cut(t, k).alike(t, "Cut of a copy")
		}
		if d, e := c.d.Cut(b.d.Writes() + 1); d != nil || e != api.ErrArg {
			t.Fatalf("a copy is cut behind its end: %v, %d", d, e)
		}
		cc := c.copy(t)
		cc.alike(t, "Copy of a copy")
		cc.write(t, 3, "more")
		cc.alike(t, "a write to a copy of a copy")
		cc.cut(t, cc.d.Writes()-1).alike(t, "Cut of a copy of a copy")
		b.alike(t, "copies of it")
	}
}

// overdo does to a disk all that can be done to it.
func (b both) overdo(t *testing.T) {
	t.Helper()
	for _, i := range []int{0, 3, 5, 7, 9, 255} {
		b.write(t, i, "over")
		b.write(t, i, "")
		b.write(t, i, strings.Repeat("\xfe", 512))
	}
	b.mark()
	b.write(t, 3, "once more")
	b.write(t, 5, "")
	b.d.Write(-1, "x")
	b.d.Write(b.a.n, "x")
	b.d.Write(3, blank+"x")
	b.alike(t, "all that can be done")
}

// P20.4: what is done to one of two disks, whichever it is, does nothing to the other one.
func TestApart(t *testing.T) {
	for i := range histories(t) {
		b := histories(t)[i]
		for k := range b.d.Writes() + 1 {
			b := histories(t)[i]
			cut, twin := b.cut(t, k), b.copy(t)
			all := []both{b, cut, twin, cut.copy(t), twin.cut(t, k), cut.cut(t, 0)}
			for one := range all {
				all[one].overdo(t)
				for _, other := range all {
					other.alike(t, "what was done to another disk")
				}
			}
			for _, x := range all {
				for j := range x.d.Writes() + 1 {
					x.cut(t, j).alike(t, "what was done to others, and Cut")
				}
			}
		}
	}
}

// P20.4: writes to two copies go each into its own log, whatever room there was in the first one's.
func TestLogsApart(t *testing.T) {
	for n := range 40 {
		b := made(t, 256)
		for i := range n {
			b.write(t, i, "x")
		}
		l := []both{b, b.copy(t), b.copy(t)}
		for i := range 5 {
			for j, x := range l {
				x.write(t, 100+i, strings.Repeat("y", 1+j))
			}
			for _, x := range l {
				x.alike(t, "writes to copies by turns")
				x.cut(t, n+i).alike(t, "writes to copies by turns, and Cut")
			}
		}
	}
}

// Two new disks have nothing in common.
func TestNewApart(t *testing.T) {
	a, b := made(t, 256), made(t, 256)
	a.write(t, 3, "a")
	b.alike(t, "a write to another disk")
	b.write(t, 3, "b")
	b.mark()
	a.alike(t, "a write to another disk")
	a.cut(t, 0).alike(t, "a write to another disk")
}

// A Disk that is copied as a struct is that same disk, not one that has its sectors alone.
func TestStructIsTheSame(t *testing.T) {
	b := made(t, 256)
	b.write(t, 3, "a")
	same := *b.d
	(both{&same, b.a}).write(t, 3, "b")
	b.alike(t, "a write to the same disk")
	b.mark()
	(both{&same, b.a}).alike(t, "Mark of the same disk")
	b.write(t, 4, "c")
	(both{&same, b.a}).cut(t, 0).alike(t, "Cut of the same disk")
}
