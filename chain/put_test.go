package chain

import (
	"math"
	"slices"
	"strings"
	"testing"

	"bedrock/api"
	"bedrock/sector"
)

// P23.1: the numbers at which there is one sector more, those around them, and those that are none.
func TestSectors(t *testing.T) {
	for n, want := range map[int]int{
		0: 1, 1: 1, 499: 1, 500: 1, 501: 2, 999: 2, 1000: 2, 1001: 3, 65000: 130, 65001: 131, 65500: 131, 65501: 132, 65535: 132, 65536: 132,
		65537: 0, -1: 0, math.MinInt: 0, math.MaxInt: 0,
	} {
		if got := Sectors(n); got != want {
			t.Errorf("Sectors(%d) = %d, not %d", n, got, want)
		}
	}
	for n := range 65537 {
		if got := Sectors(n); got != countOf(n) {
			t.Fatalf("Sectors(%d) = %d, not %d", n, got, countOf(n))
		}
	}
	for n := range 70000 {
		if got := Sectors(-1 - n); got != 0 {
			t.Fatalf("Sectors(%d) = %d", -1-n, got)
		}
		if got := Sectors(65537 + n); got != 0 {
			t.Fatalf("Sectors(%d) = %d", 65537+n, got)
		}
	}
	for _, n := range []int{1 << 17, 1<<31 - 1, 1 << 31, 1 << 32, 1<<32 + 1, 1<<32 + 500, 1<<32 + 65536, -1 << 32, math.MinInt32, math.MinInt32 + 500, math.MinInt + 1, math.MinInt + 500, math.MaxInt - 1, math.MaxInt - 498, math.MaxInt - 499, math.MaxInt - 500} {
		if got := Sectors(n); got != 0 {
			t.Errorf("Sectors(%d) = %d", n, got)
		}
	}
}

// P23.2: chains that are laid out by hand, with their sums as numbers, worked out elsewhere, bit by bit.
func TestPutByHand(t *testing.T) {
	as, bs := strings.Repeat("a", 500), strings.Repeat("b", 500)
	for _, x := range []struct {
		sectors int
		at      []int
		b       string
		want    []string
	}{
		{256, []int{9}, "", []string{zeros(508) + "\xc3\xa9\x57\xec"}},
		{256, []int{9}, "abc", []string{"\x00\x00\x00\x00\x03\x00\x00\x00abc" + zeros(497) + "\x61\xad\xe2\x0a"}},
		{256, []int{0}, "\xff", []string{"\x00\x00\x00\x00\x01\x00\x00\x00\xff" + zeros(499) + "\x3e\x16\x9c\x25"}},
		{256, []int{255}, as[1:], []string{"\x00\x00\x00\x00\xf3\x01\x00\x00" + as[1:] + "\x00\x48\xee\x52\x08"}},
		{256, []int{1}, as, []string{"\x00\x00\x00\x00\xf4\x01\x00\x00" + as + "\xef\xb2\x5d\x82"}},
		{256, []int{20, 10}, as + "b", []string{
			"\x0b\x00\x00\x00\xf5\x01\x00\x00" + as + "\x5d\xf6\xf7\x35",
			"\x00\x00\x00\x00\x01\x00\x00\x00b" + zeros(499) + "\xa2\x22\x55\x43",
		}},
		{256, []int{0, 255}, as + "b", []string{
			"\x00\x01\x00\x00\xf5\x01\x00\x00" + as + "\x69\x81\xf1\xcd",
			"\x00\x00\x00\x00\x01\x00\x00\x00b" + zeros(499) + "\xa2\x22\x55\x43",
		}},
		{256, []int{255, 0}, as + bs, []string{
			"\x01\x00\x00\x00\xe8\x03\x00\x00" + as + "\xb2\x7a\x1e\x35",
			"\x00\x00\x00\x00\xf4\x01\x00\x00" + bs + "\x83\x4b\x30\x26",
		}},
		{256, []int{20, 9, 200}, as + bs + "c", []string{
			"\x0a\x00\x00\x00\xe9\x03\x00\x00" + as + "\x00\x3e\xb4\x82",
			"\xc9\x00\x00\x00\xf5\x01\x00\x00" + bs + "\x4f\x46\x50\xa8",
			"\x00\x00\x00\x00\x01\x00\x00\x00c" + zeros(499) + "\x05\xde\x92\x36",
		}},
		{1 << 17, []int{131070, 131071}, as + "b", []string{
			"\x00\x00\x02\x00\xf5\x01\x00\x00" + as + "\xc3\xb2\xca\xaa",
			"\x00\x00\x00\x00\x01\x00\x00\x00b" + zeros(499) + "\xa2\x22\x55\x43",
		}},
		{256, []int{20, 10}, strings.Repeat("\x07", 501), []string{
			"\x0b\x00\x00\x00\xf5\x01\x00\x00" + strings.Repeat("\x07", 500) + "\x20\xeb\x09\xbc",
			"\x00\x00\x00\x00\x01\x00\x00\x00\x07" + zeros(499) + "\x4b\x13\x92\x7d",
		}},
	} {
		d := made(t, x.sectors)
		if e := Put(d, x.at, []byte(x.b)); e != api.OK || d.Writes() != len(x.at) {
			t.Fatalf("Put(%s, %d bytes) = %d, %d writes", told(x.at), len(x.b), e, d.Writes())
		}
		for k, w := range d.Log() {
			if w.At != x.at[k] || w.Data != x.want[k] {
				t.Errorf("Put(%s, %d bytes): the write %d is to %d: %x", told(x.at), len(x.b), k, w.At, w.Data)
			}
		}
		stands(t, "by hand", d, x.at, []byte(x.b))
	}
}

// P23.2: the longest chain, which falls from 255 to 124.
func TestPutOfTheLongestByHand(t *testing.T) {
	d := made(t, 256)
	b := make([]byte, 65536)
	for i := range b {
		b[i] = byte(i % 251)
	}
	var at []int
	for i := range 132 {
		at = append(at, 255-i)
	}
	puts(t, d, at, b)
	for i, want := range map[int]string{
		255: "\xff\x00\x00\x00\x00\x00\x01\x00" + string(b[:500]) + "\x15\xaf\xf8\x83",
		254: "\xfe\x00\x00\x00\x0c\xfe\x00\x00" + string(b[500:1000]) + "\x3e\xf0\x87\xc8",
		124: "\x00\x00\x00\x00\x24\x00\x00\x00" + string(b[65500:]) + zeros(464) + "\x23\xde\x97\x2a",
	} {
		if s, _ := d.Read(i); s != want {
			t.Errorf("the sector %d is %x, not %x", i, s, want)
		}
	}
	stands(t, "the longest one", d, at, b)
}

// rows are sectors that rise, that fall, and that are neither, as many as a chain of n bytes has.
func rows(sectors, n int) [][]int {
	r := drawer(uint64(n))
	rising := r.Perm(sectors)[:countOf(n)]
	slices.Sort(rising)
	falling := slices.Clone(rising)
	slices.Reverse(falling)
	return [][]int{rising, falling, r.Perm(sectors)[:countOf(n)]}
}

// P23.2: all short lengths, and the edges of longer ones.
func TestPut(t *testing.T) {
	r := drawer(1)
	all := lengths()
	for n := range 1100 {
		all = append(all, n)
	}
	for _, n := range all {
		d := made(t, 256)
		for _, at := range rows(256, n) {
			b := some(r, n)
			puts(t, d, at, b)
			stands(t, "Put", d, at, b)
		}
	}
}

// P23.2: just the chain's sectors are others behind it; those that had something are written anew as a whole, also with what they had.
func TestPutOverOthers(t *testing.T) {
	r := drawer(2)
	for _, n := range []int{0, 1, 499, 500, 501, 1000, 1001, 30000, 65536} {
		for _, at := range rows(256, n) {
			d := made(t, 256)
			for i := range 256 {
				write(t, d, i, string(some(r, 512)))
			}
			was := d.Copy()
			b := some(r, n)
			puts(t, d, at, b)
			for i := range 256 {
				old, _ := was.Read(i)
				if now, _ := d.Read(i); !slices.Contains(at, i) && now != old {
					t.Fatalf("Put(%s, %d bytes) changes the sector %d", told(at), n, i)
				}
			}
			stands(t, "over others", d, at, b)
			puts(t, d, at, b)
			stands(t, "once more", d, at, b)
		}
	}
}

// P23.2: each sector of a disk as the only one, and as the next one.
func TestPutAtEachSector(t *testing.T) {
	for _, sectors := range []int{256, 257, 600} {
		d := made(t, sectors)
		for i := range sectors {
			puts(t, d, []int{i}, []byte("one"))
			stands(t, "the only one", d, []int{i}, []byte("one"))
			at := []int{(i + 7) % sectors, i}
			puts(t, d, at, make([]byte, 1000))
			stands(t, "the next one", d, at, make([]byte, 1000))
		}
	}
	d := made(t, 1<<17)
	for _, i := range []int{0, 1, 254, 255, 256, 257, 65534, 65535, 65536, 65537, 1<<17 - 2, 1<<17 - 1} {
		for _, at := range [][]int{{i, 5, 9}, {5, i, 9}, {5, 9, i}} {
			puts(t, d, at, make([]byte, 1400))
			stands(t, "a great disk", d, at, make([]byte, 1400))
		}
	}
}

// question is what Put is asked, with one thing or another that is wrong.
type question struct {
	d  *sector.Disk
	at []int
	b  []byte
}

// flaw makes something wrong in what is asked.
type flaw func(q *question)

// noFlaw stands first in each step, so that it is also gone through without that step's flaws.
func noFlaw(*question) {}

// noDisks make the disk one that is none.
func noDisks() []flaw {
	var zero sector.Disk
	return []flaw{
		noFlaw,
		func(q *question) { q.d = nil },
		func(q *question) { q.d = &sector.Disk{} },
		func(q *question) { q.d = &zero },
	}
}

// tooLong make the bytes more than a chain can have.
func tooLong() []flaw {
	l := []flaw{noFlaw}
	for _, n := range []int{65537, 65538, 66001, 131072} {
		b := make([]byte, n)
		l = append(l, func(q *question) { q.b = b })
	}
	return append(l, func(q *question) {
		q.b, q.at = make([]byte, 65537), nil
		for i := range 132 {
			q.at = append(q.at, i)
		}
	})
}

// notAsMany make the numbers fewer, or more, than there must be.
func notAsMany() []flaw {
	l := []flaw{
		noFlaw,
		func(q *question) { q.at = nil },
		func(q *question) { q.at = []int{} },
		func(q *question) { q.at = append(q.at, 30, 31) },
	}
	for k := range 3 {
		l = append(l, func(q *question) { q.at = slices.Delete(q.at, k, k+1) })
		l = append(l, func(q *question) { q.at = slices.Insert(q.at, k, 30) })
	}
	return append(l, func(q *question) { q.at = append(q.at, 30) }, func(q *question) { q.at = q.at[:1] }, func(q *question) {
		q.at = make([]int, 1000)
	})
}

// noSectors make a number what is no sector, or is there twice.
func noSectors() []flaw {
	l := []flaw{noFlaw}
	for _, i := range []int{-1, -2, -256, 256, 257, 512, 1 << 17, 1<<32 + 20, math.MinInt, math.MinInt + 1, math.MinInt32, math.MaxInt32, math.MaxInt, math.MaxInt - 1} {
		for k := range 3 {
			l = append(l, func(q *question) {
				if k < len(q.at) {
					q.at[k] = i
				}
			})
		}
	}
	for from := range 3 {
		for to := range 3 {
			if from != to {
				l = append(l, func(q *question) {
					if max(from, to) < len(q.at) {
						q.at[to] = q.at[from]
					}
				})
			}
		}
	}
	return append(l, func(q *question) {
		for k := range q.at {
			q.at[k] = 9
		}
	})
}

// P23.2: each error, and of each two and more that apply the one that is named first; nothing is written then.
func TestPutRefuses(t *testing.T) {
	for i, noDisk := range noDisks() {
		for j, long := range tooLong() {
			for k, many := range notAsMany() {
				for l, noSector := range noSectors() {
					q := question{made(t, 256), []int{20, 9, 255}, []byte(strings.Repeat("x", 1001))}
					real := q.d
					many(&q)
					noSector(&q)
					long(&q)
					noDisk(&q)
					want := api.OK
					switch {
					case i > 0:
						want = api.ErrNil
					case j > 0:
						want = api.ErrLong
					case k > 0 || l > 0:
						want = api.ErrArg
					}
					if want == api.OK {
						puts(t, q.d, q.at, q.b)
						continue
					}
					refuses(t, "flaws", q.d, q.at, q.b, want)
					if real.Writes() != 0 || len(real.Used()) != 0 {
						t.Fatalf("disk %d, long %d, many %d, sector %d: something is written", i, j, k, l)
					}
				}
			}
		}
	}
}

// P23.2: of a chain of one sector, and of no bytes at all, the numbers are asked as of any other.
func TestPutRefusesShort(t *testing.T) {
	d := made(t, 256)
	for _, b := range [][]byte{nil, {}, []byte("a"), make([]byte, 500)} {
		for _, at := range [][]int{nil, {}, {-1}, {256}, {math.MaxInt}, {math.MinInt}, {3, 4}, {3, 3}, {-1, 3}, {3, 256}} {
			refuses(t, "one sector", d, at, b, api.ErrArg)
		}
		puts(t, d, []int{3}, b)
		stands(t, "one sector", d, []int{3}, b)
		d.Mark()
	}
}

// P23.2: of the longest chain one number that is wrong, anywhere.
func TestPutRefusesLongest(t *testing.T) {
	b := make([]byte, 65536)
	d := made(t, 256)
	for k := range 132 {
		at := rows(256, 65536)[2]
		was := at[k]
		for _, i := range []int{-1, 256, math.MaxInt, math.MinInt, at[(k+1)%132], at[(k+131)%132], at[(k+66)%132]} {
			at[k] = i
			refuses(t, "a number that is wrong", d, at, b, api.ErrArg)
		}
		at[k] = was
		refuses(t, "a number less", d, slices.Delete(slices.Clone(at), k, k+1), b, api.ErrArg)
	}
	for _, n := range []int{65500, 65000, 0} {
		refuses(t, "fewer bytes", d, rows(256, 65536)[0], b[:n], api.ErrArg)
	}
	puts(t, d, rows(256, 65536)[2], b)
	stands(t, "the longest one", d, rows(256, 65536)[2], b)
	// Of 500 sectors all but 132 are too many, though they are sectors, and apart.
	great := made(t, 600)
	for n := range 500 {
		at := make([]int, n)
		for i := range at {
			at[i] = 599 - i
		}
		if n != 132 {
			refuses(t, "another number of sectors", great, at, b, api.ErrArg)
		}
	}
}
