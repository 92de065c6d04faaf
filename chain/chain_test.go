package chain

import (
	"encoding/binary"
	"hash/crc32"
	"math/rand/v2"
	"slices"
	"strconv"
	"strings"
	"testing"

	"bedrock/api"
	"bedrock/sector"
)

// zeros are so many bytes 0.
func zeros(n int) string { return strings.Repeat("\x00", n) }

var table = crc32.MakeTable(crc32.Castagnoli)

// sumOf is the sum of bytes as a number of the width 4.
func sumOf(s string) string {
	return string(binary.LittleEndian.AppendUint32(nil, crc32.Checksum([]byte(s), table)))
}

// signed is a text with its sum behind, as a sector of a chain is.
func signed(s string) string { return s + sumOf(s) }

// sealed is a sector of a chain with these two numbers, and that part.
func sealed(next, left uint32, part string) string {
	b := binary.LittleEndian.AppendUint32(nil, next)
	b = binary.LittleEndian.AppendUint32(b, left)
	return signed(string(b) + part + zeros(500-len(part)))
}

// countOf is a plain account of how many sectors a chain of n bytes has.
func countOf(n int) int {
	count := 1
	for n > 500 {
		n -= 500
		count++
	}
	return count
}

// laidOut is a plain account of the writes of a chain: from its last sector on.
func laidOut(at []int, b []byte) []api.Write {
	l := make([]api.Write, len(at))
	next := 0
	for k := len(at) - 1; k >= 0; k-- {
		left := b[500*k:]
		l[k] = api.Write{At: at[k], Data: sealed(uint32(next), uint32(len(left)), string(left[:min(len(left), 500)]))}
		next = at[k] + 1
	}
	return l
}

// standing is a plain account of the chain of n bytes that stands at a sector, if there is one.
func standing(d *sector.Disk, head, n int) (b []byte, at []int, ok bool) {
	count := countOf(n)
	for k := range count {
		if head < 0 || head >= d.Len() || slices.Contains(at, head) {
			return nil, nil, false
		}
		s, _ := d.Read(head)
		next, left := binary.LittleEndian.Uint32([]byte(s)), binary.LittleEndian.Uint32([]byte(s[4:]))
		own := min(n-500*k, 500)
		if s[508:] != sumOf(s[:508]) || int(left) != n-500*k || s[8+own:508] != zeros(500-own) || (next == 0) != (k == count-1) {
			return nil, nil, false
		}
		b, at = append(b, s[8:8+own]...), append(at, head)
		head = int(next) - 1
	}
	return b, at, true
}

// errorOf is a plain account of what Put answers, for a disk that is one.
func errorOf(sectors int, at []int, n int) api.Errno {
	if n > 65536 {
		return api.ErrLong
	}
	if len(at) != countOf(n) {
		return api.ErrArg
	}
	for k, i := range at {
		if i < 0 || i >= sectors || slices.Contains(at[:k], i) {
			return api.ErrArg
		}
	}
	return api.OK
}

func made(t testing.TB, n int) *sector.Disk {
	t.Helper()
	d, e := sector.New(n)
	if e != api.OK {
		t.Fatalf("sector.New(%d) = %d", n, e)
	}
	return d
}

// write does a write that is to be done.
func write(t testing.TB, d *sector.Disk, i int, data string) {
	t.Helper()
	if e := d.Write(i, data); e != api.OK {
		t.Fatalf("Write(%d, %d bytes) = %d", i, len(data), e)
	}
}

// puts has Put write a chain that it is to write, and tells whether it does just the writes that it must. The writes stand behind the disk's mark then.
func puts(t testing.TB, d *sector.Disk, at []int, b []byte) {
	t.Helper()
	d.Mark()
	sameAt, sameB := slices.Clone(at), slices.Clone(b)
	want := laidOut(at, b)
	if e := Put(d, at, b); e != api.OK {
		t.Fatalf("Put(%s, %d bytes) = %d", told(at), len(b), e)
	}
	if !slices.Equal(at, sameAt) || !slices.Equal(b, sameB) {
		t.Fatalf("Put(%s, %d bytes) changes what is handed in", told(sameAt), len(b))
	}
	log := d.Log()
	if len(log) != len(want) {
		t.Fatalf("Put(%s, %d bytes) does %d writes, not %d", told(at), len(b), len(log), len(want))
	}
	for k := range want {
		if log[k] != want[k] {
			t.Fatalf("Put(%s, %d bytes) writes to %d %x, not to %d %x", told(at), len(b), log[k].At, log[k].Data, want[k].At, want[k].Data)
		}
	}
}

// refuses has Put refuse what it must, and tells whether it leaves all as it is.
func refuses(t testing.TB, what string, d *sector.Disk, at []int, b []byte, want api.Errno) {
	t.Helper()
	before := d.Writes()
	sameAt, sameB := slices.Clone(at), slices.Clone(b)
	if e := Put(d, at, b); e != want || d.Writes() != before {
		t.Fatalf("%s: Put(%s, %d bytes) = %d, not %d, and does %d writes", what, told(at), len(b), e, want, d.Writes()-before)
	}
	if !slices.Equal(at, sameAt) || !slices.Equal(b, sameB) {
		t.Fatalf("%s: Put changes what is handed in", what)
	}
}

// gets tells whether Get answers what the plain account says of a sector that the disk has, and a number of bytes from 0 to 65536; and whether a chain stands there.
func gets(t testing.TB, d *sector.Disk, head, n int) bool {
	t.Helper()
	before := d.Writes()
	b, at, ok := standing(d, head, n)
	want := api.OK
	if !ok {
		want = api.ErrDisk
	}
	got, gotAt, e := Get(d, head, n)
	if e != want || !slices.Equal(got, b) || !slices.Equal(gotAt, at) {
		t.Fatalf("Get(%d, %d) = %d bytes, %s, %d, not %d bytes, %s, %d", head, n, len(got), told(gotAt), e, len(b), told(at), want)
	}
	if d.Writes() != before {
		t.Fatalf("Get(%d, %d) does %d writes", head, n, d.Writes()-before)
	}
	return ok
}

// stands tells whether Get finds just this chain.
func stands(t testing.TB, what string, d *sector.Disk, at []int, b []byte) {
	t.Helper()
	got, gotAt, e := Get(d, at[0], len(b))
	if e != api.OK || !slices.Equal(got, b) || !slices.Equal(gotAt, at) {
		t.Fatalf("%s: Get(%d, %d) = %d bytes, %s, %d", what, at[0], len(b), len(got), told(gotAt), e)
	}
	if !gets(t, d, at[0], len(b)) {
		t.Fatalf("%s: the plain account knows no chain", what)
	}
}

// falls tells whether Get finds no chain of n bytes.
func falls(t testing.TB, what string, d *sector.Disk, head, n int) {
	t.Helper()
	if got, at, e := Get(d, head, n); e != api.ErrDisk || len(got) != 0 || len(at) != 0 {
		t.Fatalf("%s: Get(%d, %d) = %d bytes, %s, %d", what, head, n, len(got), told(at), e)
	}
	if gets(t, d, head, n) {
		t.Fatalf("%s: the plain account knows a chain", what)
	}
}

// told keeps what a failing test tells short.
func told(at []int) string {
	var b strings.Builder
	for k, i := range at {
		if k == 9 {
			b.WriteString(" ..")
			break
		}
		b.WriteString(" " + strconv.Itoa(i))
	}
	return strconv.Itoa(len(at)) + " sectors" + b.String()
}

// drawer draws the same numbers in each run of the tests.
func drawer(seed uint64) *rand.Rand { return rand.New(rand.NewPCG(seed, 23)) }

// some are n drawn bytes: of all sorts, or mostly 0, or all the same.
func some(r *rand.Rand, n int) []byte {
	b := make([]byte, n)
	sort, one := r.IntN(4), byte(r.Uint32())
	for i := range b {
		switch {
		case sort == 0:
			b[i] = one
		case sort > 1 || r.IntN(50) == 0:
			b[i] = byte(r.Uint32())
		}
	}
	return b
}

// someSectors are as many as a chain of n bytes has, out of those of a disk: they rise, or fall, or neither.
func someSectors(r *rand.Rand, sectors, n int) []int {
	at := r.Perm(sectors)[:countOf(n)]
	switch r.IntN(4) {
	case 0:
		slices.Sort(at)
	case 1:
		slices.Sort(at)
		slices.Reverse(at)
	}
	return at
}

// someLength is a drawn number of bytes, often one at which the number of sectors is another one.
func someLength(r *rand.Rand, most int) int {
	n := r.IntN(most + 1)
	switch r.IntN(4) {
	case 0:
		n = n / 500 * 500
	case 1:
		n = n/500*500 + r.IntN(3) - 1
	case 2:
		n = r.IntN(1600)
	}
	return min(max(n, 0), most)
}

// lengths are numbers of bytes at which something is another thing.
func lengths() []int {
	l := []int{0, 1, 2, 255, 256, 498, 499, 500, 501, 502, 999, 1000, 1001, 1499, 1500, 1501, 32767, 32768, 65000, 65001, 65499, 65500, 65501, 65534, 65535, 65536}
	for n := 2000; n < 65000; n += 9500 {
		l = append(l, n-1, n, n+1)
	}
	return l
}

// The chapter's examples.
func TestExamples(t *testing.T) {
	for n, want := range map[int]int{0: 1, 1: 1, 500: 1, 501: 2, 65536: 132, 65537: 0, -1: 0} {
		if got := Sectors(n); got != want {
			t.Errorf("Sectors(%d) = %d, not %d", n, got, want)
		}
	}
	d := made(t, 256)
	if e := Put(d, []int{9}, []byte("abc")); e != api.OK {
		t.Errorf("Put(9, abc) = %d", e)
	}
	if b, at, e := Get(d, 9, 3); string(b) != "abc" || !slices.Equal(at, []int{9}) || e != api.OK {
		t.Errorf("Get(9, 3) = %q, %v, %d", b, at, e)
	}
	for _, x := range [][2]int{{9, 2}, {8, 0}} {
		if b, at, e := Get(d, x[0], x[1]); len(b) != 0 || len(at) != 0 || e != api.ErrDisk {
			t.Errorf("Get(%d, %d) = %q, %v, %d", x[0], x[1], b, at, e)
		}
	}
	sevens := []byte(strings.Repeat("\x07", 501))
	if e := Put(d, []int{20, 10}, sevens); e != api.OK {
		t.Errorf("Put(20 10, 501 bytes) = %d", e)
	}
	for i, want := range map[int]string{20: "\x0b\x00\x00\x00\xf5\x01\x00\x00", 10: "\x00\x00\x00\x00\x01\x00\x00\x00"} {
		if s, _ := d.Read(i); s[:8] != want {
			t.Errorf("the sector %d begins with %x, not %x", i, s[:8], want)
		}
	}
	if b, at, e := Get(d, 20, 501); !slices.Equal(b, sevens) || !slices.Equal(at, []int{20, 10}) || e != api.OK {
		t.Errorf("Get(20, 501) = %x, %v, %d", b, at, e)
	}
	if b, at, e := Get(d, 10, 1); string(b) != "\x07" || !slices.Equal(at, []int{10}) || e != api.OK {
		t.Errorf("Get(10, 1) = %x, %v, %d", b, at, e)
	}
	refuses(t, "a sector twice", d, []int{9, 9}, sevens, api.ErrArg)
	refuses(t, "too few", d, []int{9}, sevens, api.ErrArg)
	refuses(t, "no sector", d, []int{256}, nil, api.ErrArg)
	refuses(t, "no disk", nil, []int{9}, nil, api.ErrNil)
	for _, x := range [][2]int{{256, 0}, {9, -1}} {
		if b, at, e := Get(d, x[0], x[1]); len(b) != 0 || len(at) != 0 || e != api.ErrArg {
			t.Errorf("Get(%d, %d) = %q, %v, %d", x[0], x[1], b, at, e)
		}
	}
}
