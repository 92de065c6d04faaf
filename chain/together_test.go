package chain

import (
	"math"
	"math/rand/v2"
	"slices"
	"strings"
	"sync"
	"testing"

	"bedrock/api"
	"bedrock/sector"
)

// placed is a chain that was put.
type placed struct {
	at []int
	b  []byte
}

// shelf is a disk with chains on it, none of which has a sector of another one.
type shelf struct {
	r      *rand.Rand
	d      *sector.Disk
	free   []int
	chains []placed
}

func drawnShelf(t *testing.T, r *rand.Rand) *shelf {
	t.Helper()
	sectors := 256 + r.IntN(3)*200
	return &shelf{r: r, d: made(t, sectors), free: r.Perm(sectors)}
}

// put puts one chain more, if there is room for it.
func (s *shelf) put(t *testing.T, n int) {
	t.Helper()
	count := countOf(n)
	if count > len(s.free) {
		return
	}
	c := placed{slices.Clone(s.free[:count]), some(s.r, n)}
	switch s.r.IntN(4) {
	case 0:
		slices.Sort(c.at)
	case 1:
		slices.Sort(c.at)
		slices.Reverse(c.at)
	}
	s.free = s.free[count:]
	puts(t, s.d, c.at, c.b)
	s.chains = append(s.chains, c)
}

// holds tells whether all of the chains stand.
func (s *shelf) holds(t *testing.T, what string) {
	t.Helper()
	for _, c := range s.chains {
		stands(t, what, s.d, c.at, c.b)
	}
}

// P23.4: drawn chains, several on a disk, at drawn sectors.
func TestThereAndBack(t *testing.T) {
	r := drawer(10)
	for range 90 {
		s := drawnShelf(t, r)
		for range 1 + r.IntN(12) {
			s.put(t, someLength(r, 65536))
		}
		s.holds(t, "there and back")
		for _, c := range s.chains {
			for other := max(len(c.b)-3, 0); other <= min(len(c.b)+3, 65536); other++ {
				if other != len(c.b) {
					falls(t, "a number near it", s.d, c.at[0], other)
				}
			}
			for _, other := range []int{len(c.b) - 500, len(c.b) + 500, someLength(r, 65536), r.IntN(65537), r.IntN(1000)} {
				if other >= 0 && other <= 65536 && other != len(c.b) {
					falls(t, "another number", s.d, c.at[0], other)
				}
			}
		}
	}
}

// P23.4: every other number of bytes near one at which the number of sectors is another one.
func TestNumbersNear(t *testing.T) {
	r := drawer(11)
	for _, n := range []int{0, 1, 499, 500, 501, 999, 1000, 1001, 65000, 65001, 65499, 65500, 65501, 65535, 65536} {
		d := made(t, 256)
		at, b := someSectors(r, 256, n), some(r, n)
		puts(t, d, at, b)
		for other := max(n-1100, 0); other <= min(n+1100, 65536); other++ {
			if other != n {
				falls(t, "a number near it", d, at[0], other)
			}
		}
		stands(t, "its own number", d, at, b)
	}
}

// P23.4: it stays so behind writes of other sectors.
func TestStaysBehindOthers(t *testing.T) {
	r := drawer(12)
	for range 60 {
		s := drawnShelf(t, r)
		for range 1 + r.IntN(5) {
			s.put(t, someLength(r, 20000))
		}
		for range 40 {
			if len(s.free) == 0 {
				break
			}
			i := s.free[r.IntN(len(s.free))]
			data := string(some(r, r.IntN(513)))
			if c := s.chains[r.IntN(len(s.chains))]; r.IntN(2) == 0 {
				// Also as one of the chains' own sectors is.
				data, _ = s.d.Read(c.at[r.IntN(len(c.at))])
			}
			write(t, s.d, i, data)
		}
		s.holds(t, "writes of other sectors")
		s.d.Mark()
		s.holds(t, "Mark")
	}
}

// P23.4: no longer behind a write of one of its sectors, of each of them; the other chains stay. Behind a write of what was there it is so again.
func TestFallsBehindItsOwn(t *testing.T) {
	r := drawer(13)
	for range 25 {
		s := drawnShelf(t, r)
		for range 1 + r.IntN(4) {
			s.put(t, someLength(r, 9000))
		}
		for k, c := range s.chains {
			others := shelf{d: s.d, chains: slices.Delete(slices.Clone(s.chains), k, k+1)}
			for _, i := range c.at {
				was, _ := s.d.Read(i)
				byteOther := []byte(was)
				byteOther[r.IntN(512)] ^= byte(1 + r.IntN(255))
				for _, data := range []string{"", string(byteOther), string(some(r, 512)), was[:r.IntN(508)], was[1:], was[:508], sealed(0, 0, ""), sealed(0, 70000, "x")} {
					if data+zeros(512-len(data)) == was {
						continue
					}
					write(t, s.d, i, data)
					if gets(t, s.d, c.at[0], len(c.b)) {
						t.Fatalf("behind a write to %d the chain of %d bytes stands", i, len(c.b))
					}
					others.holds(t, "a write of another chain's sector")
				}
				write(t, s.d, i, was)
			}
			s.holds(t, "what was there")
			s.d.Mark()
		}
	}
}

// P23.4: nor behind a Put of another chain to some of its sectors; the newer one stands.
func TestPutOverChains(t *testing.T) {
	r := drawer(14)
	fell := 0
	for range 150 {
		d := made(t, 256)
		old := placed{nil, some(r, someLength(r, 65536))}
		old.at = someSectors(r, 256, len(old.b))
		puts(t, d, old.at, old.b)
		for range 5 {
			c := placed{nil, some(r, someLength(r, 3000))}
			c.at = someSectors(r, 256, len(c.b))
			puts(t, d, c.at, c.b)
			stands(t, "the newer one", d, c.at, c.b)
			isApart := !slices.ContainsFunc(old.at, func(i int) bool { return slices.Contains(c.at, i) })
			if !gets(t, d, old.at[0], len(old.b)) {
				fell++
			} else if !isApart {
				t.Fatalf("the chain of %d bytes stands though its sectors were written", len(old.b))
			}
		}
	}
	if fell < 100 {
		t.Errorf("just %d chains fell", fell)
	}
}

// Behind a Put whose disk was cut within there is what the plain account says: the whole chain just at the end, or what of it stood there before.
func TestCutWithin(t *testing.T) {
	r := drawer(15)
	for range 40 {
		d := made(t, 256)
		n := someLength(r, 10000)
		at, b := someSectors(r, 256, n), some(r, n)
		puts(t, d, at, b)
		for k := range d.Writes() + 1 {
			c, e := d.Cut(k)
			if e != api.OK {
				t.Fatalf("Cut(%d) = %d", k, e)
			}
			if is := gets(t, c, at[0], n); is != (k == len(at)) {
				t.Fatalf("of %d sectors, cut at %d: %t", len(at), k, is)
			}
		}
	}
}

// turn turns bits of a sector's text from a place on: those that the number has.
func turn(s string, from int, bits uint32) string {
	b := []byte(s)
	for k := range 32 {
		if i := from + k; bits>>k&1 == 1 && i < 4096 {
			b[i/8] ^= 1 << (i % 8)
		}
	}
	return string(b)
}

// bursts are bits that lie within 32, the first of them among them: one, all, the first and the last, and drawn ones.
func bursts(r *rand.Rand) []uint32 {
	return []uint32{1, 1<<32 - 1, 1<<31 | 1, 1 | 1<<r.IntN(32), r.Uint32() | 1, r.Uint32()>>r.IntN(31) | 1}
}

// toldOf turns bits of one sector of a chain from a place on, in each of the ways, and tells whether Get finds none.
func toldOf(t *testing.T, d *sector.Disk, c placed, i, from int, ways []uint32) {
	t.Helper()
	was, _ := d.Read(i)
	for _, bits := range ways {
		write(t, d, i, turn(was, from, bits))
		if b, at, e := Get(d, c.at[0], len(c.b)); e != api.ErrDisk || len(b) != 0 || len(at) != 0 {
			t.Fatalf("of %d bytes, with the bits %x of the sector %d turned from %d on: Get = %d", len(c.b), bits, i, from, e)
		}
	}
	write(t, d, i, was)
}

// P23.5: of each sector of short chains, at each place.
func TestToldOfShortChains(t *testing.T) {
	r := drawer(16)
	for _, n := range []int{0, 1, 500, 501, 1001} {
		d := made(t, 256)
		c := placed{someSectors(r, 256, n), some(r, n)}
		puts(t, d, c.at, c.b)
		for _, i := range c.at {
			for from := range 4096 {
				toldOf(t, d, c, i, from, bursts(r))
			}
			d.Mark()
		}
		stands(t, "the bits as they were", d, c.at, c.b)
	}
}

// P23.5: of drawn sectors of long chains, at drawn places, and at those where the numbers, the part and the sum begin and end.
func TestToldOfLongChains(t *testing.T) {
	r := drawer(17)
	for range 20 {
		d := made(t, 256)
		n := 2000 + r.IntN(63537)
		c := placed{someSectors(r, 256, n), some(r, n)}
		puts(t, d, c.at, c.b)
		for range 25 {
			i := c.at[r.IntN(len(c.at))]
			toldOf(t, d, c, i, r.IntN(4096), bursts(r))
			toldOf(t, d, c, i, []int{0, 1, 17, 31, 32, 33, 63, 64, 4032, 4063, 4064, 4065, 4095}[r.IntN(13)], bursts(r))
		}
		for _, i := range []int{c.at[0], c.at[len(c.at)-1]} {
			toldOf(t, d, c, i, r.IntN(4096), bursts(r))
		}
		stands(t, "the bits as they were", d, c.at, c.b)
	}
}

// edge draws any number, often one at an end of something.
func edge(r *rand.Rand) int {
	switch r.IntN(4) {
	case 0:
		return int(r.Uint64()) >> r.IntN(64)
	case 1:
		return []int{math.MinInt, math.MinInt + 1, math.MaxInt, math.MaxInt - 1, math.MaxInt - 499, -1, 0, 1, 499, 500, 501, 65535, 65536, 65537, 255, 256}[r.IntN(16)]
	case 2:
		return r.IntN(3000)
	}
	return r.IntN(270) - 7
}

// P23.6, R1, R2: any numbers, disks that are none, nil and empty lists, sectors of any bytes.
func TestAnyNumbers(t *testing.T) {
	r := drawer(18)
	none := []*sector.Disk{nil, {}, new(sector.Disk)}
	d := made(t, 256)
	for round := range 20000 {
		if round%100 == 0 {
			d = made(t, 256)
		}
		n := r.IntN(1200)
		if r.IntN(100) == 0 {
			n = 65530 + r.IntN(20)
		}
		b := some(r, n)
		var at []int
		if r.IntN(2) == 0 {
			at = someSectors(r, 256, min(n, 65536))
		}
		for range r.IntN(3) {
			at = append(at, edge(r))
		}
		if len(at) > 0 && r.IntN(2) == 0 {
			at[r.IntN(len(at))] = edge(r)
		}
		if want := errorOf(256, at, n); want == api.OK {
			puts(t, d, at, b)
		} else {
			refuses(t, "any numbers", d, at, b, want)
		}
		write(t, d, r.IntN(256), string(some(r, r.IntN(513))))
		write(t, d, r.IntN(256), sealed(r.Uint32()>>r.IntN(32), r.Uint32()>>r.IntN(32), string(some(r, r.IntN(501)))))
		head, m := edge(r), edge(r)
		if head >= 0 && head < 256 && m >= 0 && m <= 65536 {
			gets(t, d, head, m)
		} else if b, at, e := Get(d, head, m); e != api.ErrArg || len(b) != 0 || len(at) != 0 {
			t.Fatalf("Get(%d, %d) = %d bytes, %s, %d", head, m, len(b), told(at), e)
		}
		no := none[r.IntN(len(none))]
		refuses(t, "no disk", no, at, b, api.ErrNil)
		if b, at, e := Get(no, head, m); e != api.ErrNil || len(b) != 0 || len(at) != 0 {
			t.Fatalf("Get(none, %d, %d) = %d bytes, %s, %d", head, m, len(b), told(at), e)
		}
	}
}

// P23.3: drawn small chains whose numbers are sometimes others, with the sums that go with them, against the plain account.
func TestDrawnSectors(t *testing.T) {
	r := drawer(19)
	found := 0
	for range 2000 {
		d := made(t, 256)
		n := r.IntN(2600)
		at := r.Perm(6)
		for k := range 6 {
			with := nums{uint32(at[(k+1)%6] + 1), uint32(max(n-500*k, 0))}
			if 500*k+500 >= n {
				with.next = 0
			}
			part := string(some(r, min(max(n-500*k, 0), 500)))
			switch r.IntN(25) {
			case 0:
				with.next = uint32(r.IntN(8))
			case 1:
				with.left = uint32(r.IntN(6) * 500)
			case 2:
				part = string(some(r, r.IntN(501)))
			case 3:
				with.left = r.Uint32() >> r.IntN(32)
			}
			write(t, d, at[k], sealed(with.next, with.left, part))
		}
		for _, head := range at {
			for k := range 6 {
				if gets(t, d, head, max(n-500*k, 0)) {
					found++
				}
				gets(t, d, head, 500*k)
			}
		}
	}
	if found < 2000 {
		t.Errorf("just %d chains stood", found)
	}
}

// P23.6: what is handed in stays, with all that lies around it, and what is changed of it behind Put changes nothing.
func TestHandedInStays(t *testing.T) {
	r := drawer(20)
	for _, n := range []int{0, 1, 499, 500, 501, 1001, 65536} {
		d := made(t, 256)
		roomB := some(r, n+1040)
		roomAt := append(someSectors(r, 256, n), make([]int, 20)...)
		allB, allAt := slices.Clone(roomB), slices.Clone(roomAt)
		b, at := roomB[:n], roomAt[:countOf(n)]
		puts(t, d, at, b)
		if !slices.Equal(roomB, allB) || !slices.Equal(roomAt, allAt) {
			t.Fatal("what is around the bytes, or the numbers, was changed")
		}
		clear(roomB)
		clear(roomAt)
		stands(t, "what was handed in is cleared", d, allAt[:countOf(n)], allB[:n])
	}
}

// P23.6: what is answered shares no memory: with what was handed in, with another answer, with the disk.
func TestAnswersApart(t *testing.T) {
	r := drawer(21)
	for _, n := range []int{0, 1, 500, 501, 1001, 65536} {
		d := made(t, 256)
		b, at := some(r, n), someSectors(r, 256, n)
		sameB, sameAt := slices.Clone(b), slices.Clone(at)
		puts(t, d, at, b)
		one, oneAt, _ := Get(d, at[0], n)
		two, twoAt, _ := Get(d, at[0], n)
		for i := range one {
			one[i] ^= 0xff
		}
		for i := range oneAt {
			oneAt[i] = -1
		}
		_ = append(one, "behind it"...)
		_ = append(oneAt, 1, 2, 3)
		if !slices.Equal(two, sameB) || !slices.Equal(twoAt, sameAt) || !slices.Equal(b, sameB) || !slices.Equal(at, sameAt) {
			t.Fatalf("of %d bytes an answer shares memory", n)
		}
		stands(t, "an answer that was changed", d, sameAt, sameB)
	}
}

// P23.6: of disks with the same beginning the one that is handed in alone changes.
func TestOtherDisksStay(t *testing.T) {
	d := made(t, 256)
	puts(t, d, []int{1, 2}, xs(600))
	twin := d.Copy()
	puts(t, d, []int{2, 3}, []byte(strings.Repeat("y", 600)))
	stands(t, "a copy", twin, []int{1, 2}, xs(600))
	falls(t, "the disk itself", d, 1, 600)
	falls(t, "a copy", twin, 2, 600)
}

// R6: the same calls are answered the same, also those that go on at once; one disk can be asked side by side.
func TestTheSameTwice(t *testing.T) {
	run := func() []api.Write {
		r := drawer(22)
		d, _ := sector.New(256)
		for range 100 {
			n := someLength(r, 65536)
			Put(d, someSectors(r, 256, n), some(r, n))
		}
		return d.Log()
	}
	first := run()
	d := made(t, 256)
	at, b := someSectors(drawer(23), 256, 65536), some(drawer(24), 65536)
	puts(t, d, at, b)
	var wait sync.WaitGroup
	for range 4 {
		wait.Go(func() {
			if !slices.Equal(run(), first) {
				t.Error("the same calls write otherwise")
			}
			for range 50 {
				if got, gotAt, e := Get(d, at[0], 65536); e != api.OK || !slices.Equal(got, b) || !slices.Equal(gotAt, at) {
					t.Error("the same calls are answered otherwise")
				}
			}
		})
	}
	wait.Wait()
}
