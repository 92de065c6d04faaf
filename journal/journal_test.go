package journal

import (
	"encoding/binary"
	"hash/crc32"
	"math/rand/v2"
	"slices"
	"strconv"
	"strings"
	"testing"

	"bedrock/api"
	"bedrock/sector"
)

// blank is a sector of bytes 0.
var blank = strings.Repeat("\x00", 512)

// filled is the chapter's sector of that data: the data, and bytes 0 behind it.
func filled(data string) string { return data + blank[len(data):] }

var table = crc32.MakeTable(crc32.Castagnoli)

// sumOf is the sum of bytes as a number of the width 4.
func sumOf(s string) string {
	return string(binary.LittleEndian.AppendUint32(nil, crc32.Checksum([]byte(s), table)))
}

func numberOf(n uint64) string { return string(binary.AppendUvarint(nil, n)) }

// nameOf is what a commit says of one write.
func nameOf(home uint64, data string) string { return numberOf(home) + sumOf(filled(data)) }

// signed is a text with its sum ahead, as a commit is.
func signed(s string) string { return sumOf(s) + s }

// commitOf is a plain account of a group's commit.
func commitOf(group []api.Write) string {
	s := numberOf(uint64(len(group)))
	for _, w := range group {
		s += nameOf(uint64(w.At), w.Data)
	}
	return signed(s)
}

// standingOf is a plain account of the group whose commit stands, with its bodies' bytes: nil, if none does.
func standingOf(d *sector.Disk, at, m int) []api.Write {
	text, _ := d.Read(at)
	left := text[4:]
	number := func() (uint64, bool) {
		n, size := binary.Uvarint([]byte(left))
		if size <= 0 || numberOf(n) != left[:size] {
			return 0, false
		}
		left = left[size:]
		return n, true
	}
	n, ok := number()
	if !ok || n < 1 || n > uint64(m) {
		return nil
	}
	var group []api.Write
	for i := range int(n) {
		home, ok := number()
		if !ok || home >= uint64(d.Len()) || home >= uint64(at) && home <= uint64(at+m) || len(left) < 4 {
			return nil
		}
		body, _ := d.Read(at + 1 + i)
		if sumOf(body) != left[:4] {
			return nil
		}
		left = left[4:]
		group = append(group, api.Write{At: int(home), Data: body})
	}
	if sumOf(text[4:512-len(left)]) != text[:4] || strings.Trim(left, "\x00") != "" {
		return nil
	}
	return group
}

// errorOf is a plain account of what Put answers, for a disk that is one.
func errorOf(sectors, at, m int, group []api.Write) api.Errno {
	if m < 1 || m > 60 {
		return api.ErrArg
	}
	if at < 0 || at >= sectors || at+m >= sectors {
		return api.ErrArg
	}
	if len(group) > m {
		return api.ErrLong
	}
	for _, w := range group {
		if len(w.Data) > 512 {
			return api.ErrLong
		}
	}
	for _, w := range group {
		if w.At < 0 || w.At >= sectors || w.At >= at && w.At <= at+m {
			return api.ErrArg
		}
	}
	return api.OK
}

// writesOf is a plain account of the writes that Put is to do.
func writesOf(d *sector.Disk, at int, group []api.Write) []api.Write {
	if len(group) == 0 {
		return nil
	}
	var l []api.Write
	if s, _ := d.Read(at); s != blank {
		l = append(l, api.Write{At: at, Data: blank})
	}
	for i, w := range group {
		l = append(l, api.Write{At: at + 1 + i, Data: filled(w.Data)})
	}
	l = append(l, api.Write{At: at, Data: filled(commitOf(group))})
	return append(l, settlingOf(at, group)...)
}

// settlingOf is a plain account of the writes behind a commit.
func settlingOf(at int, group []api.Write) []api.Write {
	var l []api.Write
	for _, w := range group {
		l = append(l, api.Write{At: w.At, Data: filled(w.Data)})
	}
	return append(l, api.Write{At: at, Data: blank})
}

// sectorsOf are a disk's that have a byte that is not 0.
func sectorsOf(d *sector.Disk) map[int]string {
	l := map[int]string{}
	for _, i := range d.Used() {
		l[i], _ = d.Read(i)
	}
	return l
}

func made(t testing.TB, n int) *sector.Disk {
	t.Helper()
	d, e := sector.New(n)
	if e != api.OK {
		t.Fatalf("sector.New(%d) = %d", n, e)
	}
	return d
}

// write does writes that are to be done.
func write(t testing.TB, d *sector.Disk, l ...api.Write) {
	t.Helper()
	for _, w := range l {
		if e := d.Write(w.At, w.Data); e != api.OK {
			t.Fatalf("Write(%d, %d bytes) = %d", w.At, len(w.Data), e)
		}
	}
}

// puts has Put do a group that it is to do, and tells whether it does just the writes that it must. The writes stand behind the disk's mark then.
func puts(t testing.TB, d *sector.Disk, at, m int, group []api.Write) {
	t.Helper()
	d.Mark()
	want := writesOf(d, at, group)
	same := slices.Clone(group)
	if e := Put(d, at, m, group); e != api.OK {
		t.Fatalf("Put(%d, %d, %s) = %d", at, m, told(group), e)
	}
	if !slices.Equal(group, same) {
		t.Fatalf("behind Put the group is %s, not %s", told(group), told(same))
	}
	if got := d.Log(); !slices.Equal(got, want) {
		t.Fatalf("Put(%d, %d, %s) writes %s, not %s", at, m, told(group), told(got), told(want))
	}
}

// recovers has Recover go over a disk, and tells whether it answers and writes what it must. The writes stand behind the disk's mark then.
func recovers(t testing.TB, d *sector.Disk, at, m int) bool {
	t.Helper()
	d.Mark()
	group := standingOf(d, at, m)
	var want []api.Write
	if group != nil {
		want = settlingOf(at, group)
	}
	is, e := Recover(d, at, m)
	if is != (group != nil) || e != api.OK {
		t.Fatalf("Recover(%d, %d) = %t, %d, not %t", at, m, is, e, group != nil)
	}
	if got := d.Log(); !slices.Equal(got, want) {
		t.Fatalf("Recover(%d, %d) writes %s, not %s", at, m, told(got), told(want))
	}
	return is
}

// told keeps what a failing test tells short.
func told(l []api.Write) string {
	var b strings.Builder
	for _, w := range l {
		data := strings.TrimRight(w.Data, "\x00")
		b.WriteString(" " + strconv.Itoa(w.At) + ":" + strconv.Quote(data[:min(len(data), 30)]))
		b.WriteString("/" + strconv.Itoa(len(w.Data)))
	}
	return b.String()
}

// drawer draws the same numbers in each run of the tests.
func drawer(seed uint64) *rand.Rand { return rand.New(rand.NewPCG(seed, 21)) }

// drawn is data of that many bytes.
func drawn(r *rand.Rand, n int) string {
	b := make([]byte, n)
	for i := range b {
		b[i] = byte(r.Uint32())
	}
	return string(b)
}

// someData is of a length and of a sort that is drawn.
func someData(r *rand.Rand) string {
	switch r.IntN(8) {
	case 0:
		return ""
	case 1:
		return blank[:r.IntN(513)]
	case 2:
		return drawn(r, 512)
	case 3:
		return blank[:r.IntN(512)] + "x"
	case 4:
		return strings.Repeat("\xff", r.IntN(513))
	case 5:
		return drawn(r, 1)
	default:
		return drawn(r, r.IntN(513))
	}
}

// someGroup is one of n writes to homes, of which there are few, so that some come twice.
func someGroup(r *rand.Rand, sectors, at, m, n int) []api.Write {
	var homes []int
	for len(homes) < 1+n*2/3 {
		i := r.IntN(sectors)
		if r.IntN(3) == 0 {
			i = []int{0, at - 1, at + m + 1, sectors - 1}[r.IntN(4)]
		}
		if errorOf(sectors, at, m, []api.Write{{At: i}}) == api.OK {
			homes = append(homes, i)
		}
	}
	var l []api.Write
	for range n {
		l = append(l, api.Write{At: homes[r.IntN(len(homes))], Data: someData(r)})
	}
	return l
}

// groupOf is one of n writes with homes from 100 on.
func groupOf(n int) []api.Write {
	var l []api.Write
	for i := range n {
		l = append(l, api.Write{At: 100 + i, Data: strings.Repeat(string([]byte{byte(255 - i)}), 1+8*i)})
	}
	return l
}

// committed is a disk of 256 sectors on which a group was put at 1, cut just behind its commit.
func committed(t testing.TB, m int, group []api.Write) *sector.Disk {
	t.Helper()
	d := made(t, 256)
	puts(t, d, 1, m, group)
	d, e := d.Cut(len(group) + 1)
	if e != api.OK {
		t.Fatalf("Cut = %d", e)
	}
	return d
}

// at reads a sector, without the bytes 0 behind its data.
func at(d *sector.Disk, i int) string {
	s, _ := d.Read(i)
	return strings.TrimRight(s, "\x00")
}

// The chapter's examples.
func TestExamples(t *testing.T) {
	if Size(2) != 3 || Size(0) != 0 || Size(61) != 0 {
		t.Errorf("Size: %d %d %d", Size(2), Size(0), Size(61))
	}
	d := made(t, 256)
	d.Mark()
	group := []api.Write{{At: 9, Data: "a"}, {At: 8, Data: "b"}}
	if e := Put(d, 1, 2, []api.Write{{At: 9}, {At: 8}, {At: 7}}); e != api.ErrLong {
		t.Errorf("Put of three writes = %d", e)
	}
	if e := Put(d, 1, 2, []api.Write{{At: 3, Data: "a"}}); e != api.ErrArg {
		t.Errorf("Put to 3 = %d", e)
	}
	if e := Put(d, 1, 2, []api.Write{{At: 256, Data: "a"}}); e != api.ErrArg {
		t.Errorf("Put to 256 = %d", e)
	}
	if e := Put(d, 254, 2, []api.Write{{At: 9, Data: "a"}}); e != api.ErrArg {
		t.Errorf("Put at 254 = %d", e)
	}
	if e := Put(nil, 1, 2, group); e != api.ErrNil {
		t.Errorf("Put to no disk = %d", e)
	}
	if e := Put(d, 1, 2, group); e != api.OK || !slices.Equal(homesOf(d.Log()), []int{2, 3, 1, 9, 8, 1}) {
		t.Fatalf("Put = %d, writes %s", e, told(d.Log()))
	}
	for k, writes := range map[int][]int{2: nil, 3: {9, 8, 1}, 5: {9, 8, 1}} {
		c, _ := d.Cut(k)
		if is, e := Recover(c, 1, 2); is != (k > 2) || e != api.OK || !slices.Equal(homesOf(c.Log()), writes) {
			t.Fatalf("cut at %d: Recover = %t, %d, writes %s", k, is, e, told(c.Log()))
		}
		if k > 2 && (at(c, 9) != "a" || at(c, 8) != "b") {
			t.Errorf("cut at %d: %q %q", k, at(c, 9), at(c, 8))
		}
		if is, e := Recover(c, 1, 2); is || e != api.OK {
			t.Errorf("cut at %d: Recover again = %t, %d", k, is, e)
		}
	}
}

func homesOf(l []api.Write) []int {
	var homes []int
	for _, w := range l {
		homes = append(homes, w.At)
	}
	return homes
}
