package sector

import (
	"math"
	"testing"

	"bedrock/api"
)

// P20.1: numbers of which there are disks, and their Len.
func TestNew(t *testing.T) {
	for _, n := range []int{256, 257, 258, 300, 511, 512, 513, 1000, 4096, 1 << 14, 65535, 65536, 65537, 1<<17 - 2, 1<<17 - 1, 1 << 17} {
		d, e := New(n)
		if d == nil || e != api.OK || d.Len() != n {
			t.Fatalf("New(%d) = %v, %d, Len() = %d", n, d, e, d.Len())
		}
		if d.Writes() != 0 || len(d.Log()) != 0 || len(d.Used()) != 0 {
			t.Errorf("New(%d) has %d writes, %d in its log, %d sectors that are used", n, d.Writes(), len(d.Log()), len(d.Used()))
		}
	}
}

// P20.1: all numbers up to well behind the least one, and around the greatest one.
func TestNewOfEachNumber(t *testing.T) {
	for n := -300; n < 1<<17+300; n++ {
		if n == 600 {
			n = 1<<17 - 300
		}
		d, e := New(n)
		may := n >= 256 && n <= 131072
		if may && (d == nil || e != api.OK || d.Len() != n) {
			t.Fatalf("New(%d) = %v, %d", n, d, e)
		}
		if !may && (d != nil || e != api.ErrArg) {
			t.Fatalf("New(%d) = %v, %d", n, d, e)
		}
	}
}

// P20.1: numbers of which there are none.
func TestNewRefuses(t *testing.T) {
	for _, n := range []int{255, 254, 128, 1, 0, -1, -255, -256, -257, -512, -1 << 17, 1<<17 + 1, 1<<17 + 2, 1 << 18, 1<<31 - 1, 1 << 31, 1<<32 + 256, 1<<32 + 1<<17, math.MaxInt, math.MaxInt - 1, math.MinInt, math.MinInt + 1, math.MinInt + 256, math.MinInt32} {
		d, e := New(n)
		if d != nil || e != api.ErrArg {
			t.Errorf("New(%d) = %v, %d", n, d, e)
		}
		if d.Len() != 0 {
			t.Errorf("Len of what New(%d) answers is %d", n, d.Len())
		}
	}
}

// P20.1: Len stays, whatever is done.
func TestLenStays(t *testing.T) {
	for _, n := range []int{256, 257, 1 << 17} {
		b := made(t, n)
		holds := func(what string, d *Disk) {
			t.Helper()
			if d.Len() != n {
				t.Fatalf("behind %s Len() = %d, not %d", what, d.Len(), n)
			}
		}
		for i, data := range []string{"a", "", "b", filled("c")} {
			b.write(t, n-1-i, data)
			holds("Write", b.d)
		}
		b.d.Write(n, "a")
		b.d.Write(-1, "a")
		holds("a Write of no sector", b.d)
		holds("Cut", b.cut(t, 2).d)
		holds("Copy", b.copy(t).d)
		b.mark()
		holds("Mark", b.d)
		holds("Cut", b.cut(t, 0).d)
		holds("Copy", b.copy(t).d)
	}
}

// P20.2: each sector of a new disk is 512 bytes 0.
func TestNewIsBlank(t *testing.T) {
	for _, n := range []int{256, 257, 4096, 1<<17 - 1, 1 << 17} {
		d := made(t, n).d
		for i := range n {
			if got, e := d.Read(i); got != blank || e != api.OK {
				t.Fatalf("of %d sectors the sector %d is %s, %d", n, i, short(got), e)
			}
		}
	}
}

// nones are disks that are none: nil ones, and such as no call of the package made.
func nones() map[string]*Disk {
	var zero Disk
	return map[string]*Disk{"nil": nil, "&Disk{}": {}, "new(Disk)": new(Disk), "a zero Disk": &zero}
}

// R3: the calls of a disk that is none.
func TestNone(t *testing.T) {
	numbers := append([]int{0, 1, 255}, noSectors...)
	for name, d := range nones() {
		for range 2 {
			if d.Len() != 0 || d.Writes() != 0 || len(d.Log()) != 0 || len(d.Used()) != 0 {
				t.Errorf("%s: Len %d, Writes %d, Log %v, Used %v", name, d.Len(), d.Writes(), d.Log(), d.Used())
			}
			if c := d.Copy(); c != nil {
				t.Errorf("%s: Copy is a disk", name)
			}
			for _, i := range numbers {
				if s, e := d.Read(i); s != "" || e != api.ErrNil {
					t.Errorf("%s: Read(%d) = %s, %d", name, i, short(s), e)
				}
				for _, data := range []string{"", "a", blank, blank + "x", blank + blank} {
					if e := d.Write(i, data); e != api.ErrNil {
						t.Errorf("%s: Write(%d, %d bytes) = %d", name, i, len(data), e)
					}
				}
				if c, e := d.Cut(i); c != nil || e != api.ErrNil {
					t.Errorf("%s: Cut(%d) = %v, %d", name, i, c, e)
				}
			}
			d.Mark()
		}
	}
}

// R3: what a call answers beside an error is a disk that is none, too.
func TestNoneOfAnError(t *testing.T) {
	refused, _ := New(255)
	cut, _ := made(t, 256).d.Cut(1)
	var none *Disk
	for _, d := range []*Disk{refused, cut, none.Copy()} {
		if _, e := d.Read(0); e != api.ErrNil || d.Len() != 0 {
			t.Errorf("Read = %d, Len = %d", e, d.Len())
		}
	}
}
