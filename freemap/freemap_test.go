package freemap

import (
	"encoding/binary"
	"hash/crc32"
	"math"
	"math/rand/v2"
	"slices"
	"strings"
	"testing"

	"bedrock/api"
)

// anyNumbers are no sectors of any map.
var anyNumbers = []int{math.MinInt, math.MinInt + 1, math.MinInt32, -131072, -4000, -256, -65, -64, -63, -8, -1, 131072, 131073, 1 << 31, 1 << 32, 1<<32 + 5, 1 << 62, math.MaxInt - 1, math.MaxInt}

// sizes are maps' at the edges of a word and of a home.
var sizes = []int{256, 257, 263, 264, 265, 319, 320, 321, 383, 384, 385, 3999, 4000, 4001, 4007, 4008, 4031, 4032, 4033, 7999, 8000, 8001, 12345, 131071, 131072}

var table = crc32.MakeTable(crc32.Castagnoli)

func fixed(n uint32) string { return string(binary.LittleEndian.AppendUint32(nil, n)) }

// signed is a home's first 504 bytes, with what stands behind them.
func signed(head string) string {
	return head + fixed(crc32.Checksum([]byte(head), table)) + "\x00\x00\x00\x00"
}

// homesOf is a plain account of the homes of a map with these free sectors.
func homesOf(free []bool) []string {
	var homes []string
	for k := 0; k*4000 < len(free); k++ {
		var b [500]byte
		for i := range 4000 {
			if at := k*4000 + i; at < len(free) && free[at] {
				b[i/8] += []byte{1, 2, 4, 8, 16, 32, 64, 128}[i%8]
			}
		}
		homes = append(homes, signed(string(b[:])+fixed(uint32(k))))
	}
	return homes
}

// both is a map, and a plain account of it: of each sector, whether it is free.
type both struct {
	m    *Map
	free []bool
}

func fresh(t testing.TB, n int) both {
	t.Helper()
	m, e := New(n)
	if m == nil || e != api.OK {
		t.Fatalf("New(%d) = %v, %d", n, m != nil, e)
	}
	free := make([]bool, n)
	for i := range free {
		free[i] = true
	}
	return both{m, free}
}

// freeOnes are a plain account's free sectors.
func (b both) freeOnes() []int {
	var l []int
	for i, is := range b.free {
		if is {
			l = append(l, i)
		}
	}
	return l
}

func (b both) takenOnes() []int {
	var l []int
	for i, is := range b.free {
		if !is {
			l = append(l, i)
		}
	}
	return l
}

// alike tells whether the map answers as the account says.
func (b both) alike(t testing.TB, behind string) {
	t.Helper()
	if got := b.m.Len(); got != len(b.free) {
		t.Fatalf("behind %s: Len() = %d, not %d", behind, got, len(b.free))
	}
	if got, want := b.m.Free(), len(b.freeOnes()); got != want {
		t.Fatalf("behind %s: Free() = %d, not %d", behind, got, want)
	}
	for i, want := range b.free {
		if got := b.m.Has(i); got != want {
			t.Fatalf("behind %s: Has(%d) = %t of %d", behind, i, got, len(b.free))
		}
	}
	for _, i := range []int{-1, len(b.free), len(b.free) + 1, math.MinInt, math.MaxInt} {
		if b.m.Has(i) {
			t.Fatalf("behind %s: Has(%d) = true of %d", behind, i, len(b.free))
		}
	}
}

// alikeHomes tells whether its homes are as the account says, too, and whether they lead back to it.
func (b both) alikeHomes(t testing.TB, behind string) {
	t.Helper()
	b.alike(t, behind)
	homes, want := b.m.Homes(), homesOf(b.free)
	if len(homes) != len(want) {
		t.Fatalf("behind %s: %d homes of %d", behind, len(homes), len(b.free))
	}
	for k := range want {
		if homes[k] != want[k] {
			t.Fatalf("behind %s: the home %d of %d is\n%x\nnot\n%x", behind, k, len(b.free), homes[k], want[k])
		}
	}
	b.alike(t, behind+", and Homes")
	again, e := Of(len(b.free), homes)
	if e != api.OK {
		t.Fatalf("behind %s: Of(%d, Homes()) = %d", behind, len(b.free), e)
	}
	if !slices.Equal(homes, want) {
		t.Fatalf("behind %s: Of changed what was handed in", behind)
	}
	both{again, b.free}.alike(t, behind+", Homes and Of")
}

// take tells whether Take answers and does what it must.
func (b both) take(t testing.TB, k int) []int {
	t.Helper()
	free := b.freeOnes()
	got, ok := b.m.Take(k)
	if k < 0 || k > len(free) {
		if len(got) != 0 || ok {
			t.Fatalf("Take(%d) = %v, %t, with %d free", k, got, ok, len(free))
		}
		return nil
	}
	if !ok || !slices.Equal(got, free[:k]) {
		t.Fatalf("Take(%d) = %v, %t, not %v", k, got, ok, free[:k])
	}
	for _, i := range got {
		b.free[i] = false
	}
	return got
}

// errorOf is a plain account of what Give (of what is to be taken) and Keep (free) answer.
func (b both) errorOf(l []int, are bool) api.Errno {
	met := map[int]bool{}
	for _, i := range l {
		if i < 0 || i >= len(b.free) || b.free[i] != are || met[i] {
			return api.ErrArg
		}
		met[i] = true
	}
	return api.OK
}

// give tells whether Give answers what it must, and does no more to the list.
func (b both) give(t testing.TB, l ...int) api.Errno {
	t.Helper()
	return b.turn(t, "Give", b.m.Give, l, false)
}

func (b both) keep(t testing.TB, l ...int) api.Errno {
	t.Helper()
	return b.turn(t, "Keep", b.m.Keep, l, true)
}

func (b both) turn(t testing.TB, name string, call func([]int) api.Errno, l []int, are bool) api.Errno {
	t.Helper()
	want, same := b.errorOf(l, are), slices.Clone(l)
	if got := call(l); got != want {
		t.Fatalf("%s(%v) = %d, not %d", name, l, got, want)
	}
	if !slices.Equal(l, same) {
		t.Fatalf("%s changed its list %v to %v", name, same, l)
	}
	if want == api.OK {
		for _, i := range l {
			b.free[i] = !are
		}
	}
	return want
}

// pieces is a map of whose sectors just these are free.
func pieces(t testing.TB, n int, is func(i int) bool) both {
	t.Helper()
	b := fresh(t, n)
	var l []int
	for i := range n {
		if !is(i) {
			l = append(l, i)
		}
	}
	if e := b.keep(t, l...); e != api.OK {
		t.Fatalf("Keep of %d of %d = %d", len(l), n, e)
	}
	return b
}

// some is a row of numbers from up to, without to.
func some(from, to int) []int {
	var l []int
	for i := from; i < to; i++ {
		l = append(l, i)
	}
	return l
}

func drawer(seed uint64) *rand.Rand { return rand.New(rand.NewPCG(seed, 22)) }

// The chapter's examples, row by row.
func TestExamples(t *testing.T) {
	for i, x := range [][2]int{{256, 1}, {4000, 1}, {4001, 2}, {255, 0}} {
		if got := Size(x[0]); got != x[1] {
			t.Errorf("%d: Size(%d) = %d, not %d", i, x[0], got, x[1])
		}
	}
	m, e := New(256)
	if e != api.OK {
		t.Fatalf("New(256) = %d", e)
	}
	takes := func(k int, want ...int) {
		t.Helper()
		if l, ok := m.Take(k); !ok || !slices.Equal(l, want) {
			t.Errorf("Take(%d) = %v, %t, not %v", k, l, ok, want)
		}
	}
	takes(3, 0, 1, 2)
	if m.Free() != 253 || m.Has(2) || !m.Has(3) || m.Has(256) {
		t.Errorf("Free() = %d, Has(2) = %t, Has(3) = %t, Has(256) = %t", m.Free(), m.Has(2), m.Has(3), m.Has(256))
	}
	if e := m.Give([]int{1}); e != api.OK {
		t.Errorf("Give(1) = %d", e)
	}
	takes(2, 1, 3)
	for _, l := range [][]int{{1, 1}, {9}, {256}} {
		if e := m.Give(l); e != api.ErrArg {
			t.Errorf("Give(%v) = %d", l, e)
		}
	}
	for _, l := range [][]int{{0}, {10, 10}} {
		if e := m.Keep(l); e != api.ErrArg {
			t.Errorf("Keep(%v) = %d", l, e)
		}
	}
	for _, k := range []int{-1, 300} {
		if l, ok := m.Take(k); len(l) != 0 || ok {
			t.Errorf("Take(%d) = %v, %t", k, l, ok)
		}
	}
	if e := m.Keep([]int{255}); e != api.OK || m.Has(255) || m.Free() != 251 {
		t.Errorf("Keep(255) = %d, Has(255) = %t, Free() = %d", e, m.Has(255), m.Free())
	}
	if m, e := New(255); m != nil || e != api.ErrArg {
		t.Errorf("New(255) = %v, %d", m != nil, e)
	}
	for _, homes := range [][]string{nil, {strings.Repeat("\x00", 512)}} {
		if m, e := Of(256, homes); m != nil || e != api.ErrForm {
			t.Errorf("Of(256, %d) = %v, %d", len(homes), m != nil, e)
		}
	}
}
