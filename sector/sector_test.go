package sector

import (
	"math"
	"math/rand/v2"
	"slices"
	"strings"
	"testing"

	"bedrock/api"
)

// blank is a sector's bytes at first.
var blank = strings.Repeat("\x00", 512)

// filled is the chapter's sector of that data: the data, and bytes 0 behind it.
func filled(data string) string { return data + blank[len(data):] }

// account is a plain one: all writes that there ever were, and how many of them stand ahead of the mark.
type account struct {
	n, mark int
	all     []api.Write
}

func (a *account) write(i int, data string) {
	a.all = append(a.all, api.Write{At: i, Data: filled(data)})
}

func (a *account) writes() []api.Write { return a.all[a.mark:] }

func (a *account) read(i int) string {
	for _, w := range slices.Backward(a.all) {
		if w.At == i {
			return w.Data
		}
	}
	return blank
}

func (a *account) used() []int {
	var l []int
	for i := range a.n {
		if a.read(i) != blank {
			l = append(l, i)
		}
	}
	return l
}

func (a *account) cut(k int) *account {
	return &account{a.n, a.mark + k, slices.Clone(a.all[:a.mark+k])}
}

func (a *account) copy() *account { return &account{a.n, a.mark, slices.Clone(a.all)} }

// both is a disk, and the account of what was done to it.
type both struct {
	d *Disk
	a *account
}

func made(t testing.TB, n int) both {
	t.Helper()
	d, e := New(n)
	if d == nil || e != api.OK {
		t.Fatalf("New(%d) = %v, %d", n, d, e)
	}
	return both{d, &account{n: n}}
}

// write does one that is to be done.
func (b both) write(t testing.TB, i int, data string) {
	t.Helper()
	if e := b.d.Write(i, data); e != api.OK {
		t.Fatalf("Write(%d, %d bytes) = %d", i, len(data), e)
	}
	b.a.write(i, data)
}

func (b both) mark() {
	b.d.Mark()
	b.a.mark = len(b.a.all)
}

func (b both) cut(t testing.TB, k int) both {
	t.Helper()
	d, e := b.d.Cut(k)
	if d == nil || e != api.OK {
		t.Fatalf("Cut(%d) of %d writes = %v, %d", k, len(b.a.writes()), d, e)
	}
	return both{d, b.a.cut(k)}
}

func (b both) copy(t testing.TB) both {
	t.Helper()
	d := b.d.Copy()
	if d == nil {
		t.Fatal("Copy is nil")
	}
	return both{d, b.a.copy()}
}

// reads tells whether the sector is as the account says.
func (b both) reads(t testing.TB, what string, i int) {
	t.Helper()
	got, e := b.d.Read(i)
	if want := b.a.read(i); got != want || e != api.OK {
		t.Fatalf("behind %s the sector %d is %s, %d, not %s", what, i, short(got), e, short(want))
	}
}

// alike tells whether the disk is, all in all, as the account says.
func (b both) alike(t testing.TB, what string) {
	t.Helper()
	if got := b.d.Len(); got != b.a.n {
		t.Fatalf("behind %s Len() = %d, not %d", what, got, b.a.n)
	}
	if got := b.d.Writes(); got != len(b.a.writes()) {
		t.Fatalf("behind %s Writes() = %d, not %d", what, got, len(b.a.writes()))
	}
	if got := b.d.Log(); !slices.Equal(got, b.a.writes()) {
		t.Fatalf("behind %s Log() tells %s, not %s", what, told(got), told(b.a.writes()))
	}
	used := b.a.used()
	for range 2 {
		if got := b.d.Used(); !slices.Equal(got, used) {
			t.Fatalf("behind %s Used() = %v, not %v", what, got, used)
		}
	}
	for i := range b.a.n {
		if _, is := slices.BinarySearch(used, i); is {
			b.reads(t, what, i)
		} else if got, e := b.d.Read(i); got != blank || e != api.OK {
			t.Fatalf("behind %s the sector %d is %s, %d, not bytes 0", what, i, short(got), e)
		}
	}
}

// short keeps what a failing test tells short.
func short(s string) string {
	if len(s) != 512 {
		return "of another length"
	}
	if s == blank {
		return "blank"
	}
	return "[" + strings.TrimRight(s, "\x00") + "]"
}

func told(l []api.Write) string {
	var b strings.Builder
	for _, w := range l {
		b.WriteString(short(w.Data))
	}
	return b.String()
}

// drawer draws the same numbers in each run of the tests.
func drawer(seed uint64) *rand.Rand { return rand.New(rand.NewPCG(seed, 20)) }

// drawn is data of that many bytes.
func drawn(r *rand.Rand, n int) string {
	b := make([]byte, n)
	for i := range b {
		b[i] = byte(r.Uint32())
	}
	return string(b)
}

// someData is of a length and of a sort that is drawn: often bytes 0 alone, nothing, or a whole sector.
func someData(r *rand.Rand) string {
	switch r.IntN(8) {
	case 0:
		return ""
	case 1:
		return blank[:r.IntN(513)]
	case 2:
		return drawn(r, 512)
	case 3:
		return blank[:r.IntN(512)] + "x"
	case 4:
		return strings.Repeat("\xff", r.IntN(513))
	case 5:
		return drawn(r, 1)
	default:
		return drawn(r, r.IntN(513))
	}
}

// noSectors are numbers that no disk of 256 sectors has.
var noSectors = []int{-1, -2, -256, -512, 256, 257, 512, 1 << 17, math.MinInt, math.MinInt + 1, math.MinInt32, math.MaxInt32, 1 << 32, 1<<32 + 3, -1 << 32, math.MaxInt, math.MaxInt - 1}

// The chapter's examples.
func TestExamples(t *testing.T) {
	d, _ := New(256)
	d.Write(3, "a")
	d.Mark()
	d.Write(3, "b")
	d.Write(5, "c")
	d.Write(3, "")
	for i, want := range map[int]string{3: blank, 5: filled("c")} {
		if got, e := d.Read(i); got != want || e != api.OK {
			t.Errorf("Read(%d) = %s, %d", i, short(got), e)
		}
	}
	var at []int
	for _, w := range d.Log() {
		at = append(at, w.At)
	}
	if d.Writes() != 3 || !slices.Equal(d.Used(), []int{5}) || !slices.Equal(at, []int{3, 5, 3}) {
		t.Errorf("Writes %d, Used %v, Log's sectors %v", d.Writes(), d.Used(), at)
	}
	for k, want := range []string{"a", "b", "b"} {
		c, e := d.Cut(k)
		if e != api.OK {
			t.Fatalf("Cut(%d) = %d", k, e)
		}
		if got, e := c.Read(3); got != filled(want) || e != api.OK {
			t.Errorf("Cut(%d): the sector 3 is %s, %d", k, short(got), e)
		}
	}
	for _, k := range []int{4, -1} {
		if c, e := d.Cut(k); c != nil || e != api.ErrArg {
			t.Errorf("Cut(%d) = %v, %d", k, c, e)
		}
	}
	if s, e := d.Read(256); s != "" || e != api.ErrArg {
		t.Errorf("Read(256) = %s, %d", short(s), e)
	}
	if e := d.Write(-1, ""); e != api.ErrArg {
		t.Errorf("Write(-1, nothing) = %d", e)
	}
	if e := d.Write(0, strings.Repeat("x", 513)); e != api.ErrLong {
		t.Errorf("Write(0, 513 bytes) = %d", e)
	}
	for _, n := range []int{255, 1<<17 + 1} {
		if d, e := New(n); d != nil || e != api.ErrArg {
			t.Errorf("New(%d) = %v, %d", n, d, e)
		}
	}
}
