package sector

import (
	"slices"
	"strings"
	"testing"
	"unsafe"

	"bedrock/api"
)

// P20.2: data of every length, to sectors at both ends and between.
func TestWriteOfEveryLength(t *testing.T) {
	r := drawer(1)
	b := made(t, 256)
	for n := range 513 {
		for _, i := range []int{0, 1, 100, 254, 255} {
			b.write(t, i, drawn(r, n))
			b.reads(t, "Write", i)
			b.write(t, i, strings.Repeat("\xff", n))
			b.reads(t, "Write", i)
		}
		if n%64 == 0 {
			b.alike(t, "Write")
		}
	}
	b.alike(t, "all the Writes")
}

// P20.2: each length over each of some others: nothing of the longer one is left.
func TestWriteOverWrite(t *testing.T) {
	b := made(t, 256)
	for first := range 513 {
		for _, then := range []int{0, 1, 2, 7, 8, 255, 256, 257, 499, 500, 510, 511, 512, max(first-1, 0), first, min(first+1, 512)} {
			b.d.Write(9, strings.Repeat("\xff", first))
			data := strings.Repeat("\x81", then)
			if e := b.d.Write(9, data); e != api.OK {
				t.Fatalf("Write(9, %d bytes) = %d", then, e)
			}
			if got, e := b.d.Read(9); got != filled(data) || e != api.OK {
				t.Fatalf("%d bytes over %d: %s, %d", then, first, short(got), e)
			}
		}
	}
}

// P20.2: every byte, alone and as each byte of a sector.
func TestWriteOfEveryByte(t *testing.T) {
	b := made(t, 256)
	for x := range 256 {
		for _, n := range []int{1, 2, 511, 512} {
			b.write(t, x, strings.Repeat(string([]byte{byte(x)}), n))
			b.reads(t, "Write", x)
		}
	}
	b.alike(t, "a Write of every byte")
}

// P20.2: one byte that is not 0, wherever it stands in the sector.
func TestWriteOfOneByte(t *testing.T) {
	for _, x := range []string{"\x01", "\x80", "\xff", " "} {
		b := made(t, 513)
		for at := range 512 {
			b.write(t, at, blank[:at]+x)
			b.reads(t, "Write", at)
			b.write(t, 512, blank[:at]+x+blank[at+1:])
			b.reads(t, "Write", 512)
		}
		if got := b.d.Used(); len(got) != 513 {
			t.Errorf("of 513 sectors with one byte that is not 0, Used tells %d", len(got))
		}
	}
}

// P20.2: texts of all sorts are bytes and nothing else.
func TestWriteOfTexts(t *testing.T) {
	b := made(t, 256)
	for i, data := range []string{"\x00", "\x00a", "a\x00", "a\x00b\x00\x00c", "\x80", "\xff", "\xfe\xff", "\xc3", "\xe2\x82", "\xed\xa0\x80", "\xf4\x90\x80\x80", "é", "e\u0301", "岩盤", "🧱", "\ufffd", "\ufeffa", "a\r\nb\n", " \t", "0", strings.Repeat("岩", 170), strings.Repeat("\xff\x00", 256), blank[:511] + "\xff", "\x00\xc2\x80"} {
		b.write(t, i, data)
		b.alike(t, "Write")
	}
}

// P20.2: a write that writes what is there, and one of bytes 0, each is a write more.
func TestWriteCounts(t *testing.T) {
	b := made(t, 256)
	n := 0
	for _, data := range []string{"", "", blank, blank[:7], "a", "a", "a\x00", filled("a"), "ab", "ab", "", "", blank, "a", drawn(drawer(2), 512)} {
		for range 3 {
			b.write(t, 4, data)
			n++
			if b.d.Writes() != n {
				t.Fatalf("behind %d writes Writes() = %d", n, b.d.Writes())
			}
			b.alike(t, "Write")
		}
	}
}

// refused are disks, on which wrong calls must change nothing: new ones, such as were written to, and such as were marked.
func refused(t *testing.T) []both {
	t.Helper()
	l := []both{made(t, 256), made(t, 256), made(t, 256), made(t, 256)}
	for _, b := range l[1:] {
		for i := range 9 {
			b.write(t, 31*i, "b"+strings.Repeat("\xff", 60*i))
		}
		b.write(t, 255, filled("z"))
		b.write(t, 31, "")
	}
	l[2].mark()
	l[3].mark()
	l[3].write(t, 31, "again")
	l[3].write(t, 0, "")
	return l
}

// P20.2: numbers that are no sector's are refused, whatever the data is.
func TestNoSector(t *testing.T) {
	for _, b := range refused(t) {
		for _, i := range noSectors {
			if s, e := b.d.Read(i); s != "" || e != api.ErrArg {
				t.Fatalf("Read(%d) = %s, %d", i, short(s), e)
			}
			for _, data := range []string{"", "a", blank, filled("a"), blank + "a", strings.Repeat("a", 513), strings.Repeat("a", 1<<20)} {
				if e := b.d.Write(i, data); e != api.ErrArg {
					t.Fatalf("Write(%d, %d bytes) = %d", i, len(data), e)
				}
			}
			b.alike(t, "calls with no sector")
		}
	}
}

// P20.2: each number around a disk's ends, for disks of many lengths.
func TestEnds(t *testing.T) {
	for _, n := range []int{256, 257, 300, 1 << 16, 1<<17 - 1, 1 << 17} {
		b := made(t, n)
		for _, i := range []int{-2, -1, 0, 1, n - 2, n - 1, n, n + 1, 2 * n} {
			want := api.OK
			if i < 0 || i >= n {
				want = api.ErrArg
			}
			if e := b.d.Write(i, "a"); e != want {
				t.Fatalf("of %d sectors: Write(%d) = %d", n, i, e)
			}
			if s, e := b.d.Read(i); e != want || want == api.OK && s != filled("a") || want != api.OK && s != "" {
				t.Fatalf("of %d sectors: Read(%d) = %s, %d", n, i, short(s), e)
			}
		}
		if got := b.d.Used(); !slices.Equal(got, []int{0, 1, n - 2, n - 1}) || b.d.Writes() != 4 {
			t.Errorf("of %d sectors: Used() = %v, Writes() = %d", n, got, b.d.Writes())
		}
	}
}

// P20.2: data that is too long is refused, also where it is bytes 0 behind the 512th.
func TestTooLong(t *testing.T) {
	for _, b := range refused(t) {
		for _, i := range []int{0, 1, 31, 255} {
			for _, n := range []int{513, 514, 767, 768, 1023, 1024, 1025, 65536 + 512, 1 << 22} {
				for _, x := range []string{"a", "\x00", "\xff"} {
					if e := b.d.Write(i, strings.Repeat(x, n)); e != api.ErrLong {
						t.Fatalf("Write(%d, %d bytes) = %d", i, n, e)
					}
				}
			}
			if e := b.d.Write(i, filled("a")+"\x00"); e != api.ErrLong {
				t.Fatalf("Write(%d, 512 bytes and a byte 0) = %d", i, e)
			}
			b.alike(t, "a Write that is too long")
		}
	}
}

// P20.3: behind each of many writes to few sectors.
func TestWritesAndLog(t *testing.T) {
	r := drawer(3)
	for _, sectors := range [][]int{{7}, {0, 255}, {3, 5, 3, 9}} {
		b := made(t, 256)
		b.alike(t, "New")
		for k := range 120 {
			b.write(t, sectors[r.IntN(len(sectors))], someData(r))
			b.alike(t, "Write")
			if got := b.d.Log(); len(got) != k+1 || len(got[k].Data) != 512 {
				t.Fatalf("behind %d writes the log has %d, the last one %d bytes", k+1, len(got), len(got[k].Data))
			}
		}
	}
}

// P20.3: the mark, on a new disk, behind writes, twice in a row, and with writes behind it.
func TestMark(t *testing.T) {
	b := made(t, 256)
	b.mark()
	b.alike(t, "Mark of a new disk")
	b.mark()
	b.alike(t, "Mark of a new disk, twice")
	for _, data := range []string{"a", "bc", "", filled("d"), "e"} {
		b.write(t, 3, data)
		b.write(t, 200, "x"+data[:len(data)/2])
		b.alike(t, "Write")
		b.mark()
		b.alike(t, "Mark")
		b.write(t, 3, data)
		b.alike(t, "Mark and Write")
		b.mark()
		b.mark()
		b.alike(t, "Mark, twice")
	}
}

// R4: the list that Log tells, changed by its caller, changes nothing of the disk, nor of another answer.
func TestLogIsNewMemory(t *testing.T) {
	for n := range 20 {
		b := made(t, 256)
		b.write(t, 1, "ahead")
		b.mark()
		for i := range n {
			b.write(t, i%3, strings.Repeat("x", i))
		}
		first, second := b.d.Log(), b.d.Log()
		first = first[:cap(first)]
		for i := range first {
			first[i] = api.Write{At: -7, Data: "spoilt"}
		}
		_ = append(b.d.Log(), api.Write{At: 9, Data: "more"})
		if !slices.Equal(second, b.a.writes()) {
			t.Fatalf("a change of one log made another one %s", told(second))
		}
		b.alike(t, "a change of Log's answer")
		for k := range n + 1 {
			b.cut(t, k).alike(t, "a change of Log's answer, and Cut")
		}
		b.copy(t).alike(t, "a change of Log's answer, and Copy")
		b.write(t, 2, "behind")
		if !slices.Equal(second, b.a.writes()[:n]) {
			t.Fatalf("a write made an older log %s", told(second))
		}
		b.mark()
		if len(second) != n || n > 0 && second[0].Data != b.a.all[1].Data {
			t.Fatal("Mark changed an older log")
		}
	}
}

// R4: data is not kept: what becomes of its memory does not count. (A text cannot be changed in Go but by unsafe; a piece of a long one would be kept with all of it.)
func TestDataIsNotKept(t *testing.T) {
	for _, n := range []int{1, 2, 500, 511, 512} {
		memory := []byte(strings.Repeat("m", n))
		b := made(t, 256)
		b.write(t, 8, strings.Repeat("m", n))
		if e := b.d.Write(8, unsafe.String(&memory[0], n)); e != api.OK {
			t.Fatalf("Write(8, %d bytes) = %d", n, e)
		}
		if string(memory) != strings.Repeat("m", n) {
			t.Fatalf("Write changed its data of %d bytes", n)
		}
		b.a.write(8, strings.Repeat("m", n))
		clear(memory)
		b.alike(t, "a change of the data's memory")
	}
}

// R4: Read's answer is new memory each time.
func TestReadIsNewMemory(t *testing.T) {
	b := made(t, 256)
	b.write(t, 3, drawn(drawer(4), 512))
	for _, i := range []int{3, 4} {
		x, _ := b.d.Read(i)
		y, _ := b.d.Read(i)
		if unsafe.StringData(x) == unsafe.StringData(y) {
			t.Errorf("two answers of Read(%d) are one memory", i)
		}
	}
}

// P20.5: Used of a new disk, of sectors that only ever had bytes 0, and behind writes in many orders.
func TestUsed(t *testing.T) {
	r := drawer(5)
	b := made(t, 256)
	b.alike(t, "New")
	for i, data := range []string{"", "\x00", blank[:100], blank[:511], blank} {
		b.write(t, i, data)
		b.alike(t, "a Write of bytes 0")
	}
	if got := b.d.Used(); len(got) != 0 {
		t.Fatalf("of bytes 0 alone Used() = %v", got)
	}
	for range 30 {
		b := made(t, 256)
		order := r.Perm(256)[:r.IntN(257)]
		for _, i := range order {
			b.write(t, i, drawn(r, 511)+"x")
		}
		rising := slices.Sorted(slices.Values(order))
		for range 5 {
			if got := b.d.Used(); !slices.Equal(got, rising) {
				t.Fatalf("behind writes of %v Used() = %v", order, got)
			}
		}
		b.mark()
		b.alike(t, "writes in an order, and Mark")
		for _, i := range order[:len(order)/2] {
			b.write(t, i, blank[:r.IntN(513)])
		}
		b.alike(t, "writes of bytes 0 over other ones")
		for _, i := range order[:len(order)/4] {
			b.write(t, i, "x")
		}
		b.alike(t, "writes over bytes 0")
	}
}

// P20.5: Used of a disk all of whose sectors are used, and of one none of which is any more.
func TestUsedAll(t *testing.T) {
	const n = 1 << 17
	b := made(t, n)
	for i := n - 1; i >= 0; i-- {
		b.d.Write(i, "x")
	}
	got := b.d.Used()
	if len(got) != n || got[0] != 0 || got[n-1] != n-1 || !slices.IsSorted(got) {
		t.Fatalf("Used tells %d sectors", len(got))
	}
	got[5] = -1
	if b.d.Used()[5] != 5 {
		t.Error("a change of Used's answer changed another one")
	}
	for i := range n {
		b.d.Write(i, "")
	}
	if got := b.d.Used(); len(got) != 0 || b.d.Writes() != 2*n {
		t.Errorf("Used tells %d sectors, Writes %d", len(got), b.d.Writes())
	}
	c, e := b.d.Cut(n + n/2)
	if e != api.OK || len(c.Used()) != n/2 || c.Used()[0] != n/2 {
		t.Errorf("cut in the midst: %d", e)
	}
}
