package journal

import (
	"maps"
	"math"
	"strings"
	"testing"

	"bedrock/api"
	"bedrock/sector"
)

// stands tells whether Recover takes a commit as one that stands, or does not, and does what it must then.
func stands(t *testing.T, what string, d *sector.Disk, at, m int, want bool) {
	t.Helper()
	same := sectorsOf(d)
	if got := recovers(t, d, at, m); got != want {
		t.Fatalf("%s: Recover = %t, not %t", what, got, want)
	}
	if !want && (d.Writes() != 0 || !maps.Equal(sectorsOf(d), same)) {
		t.Fatalf("%s: Recover writes %s", what, told(d.Log()))
	}
	if recovers(t, d, at, m) || d.Writes() != 0 {
		t.Fatalf("%s: a Recover behind it finds something", what)
	}
}

// P21.3: commits that stand, of each number of writes.
func TestRecover(t *testing.T) {
	for _, m := range []int{1, 2, 3, 59, 60} {
		for n := 1; n <= m; n++ {
			d := committed(t, m, groupOf(n))
			write(t, d, api.Write{At: 100, Data: "old"}, api.Write{At: 255, Data: "other"})
			stands(t, "a commit of "+told(groupOf(n)), d, 1, m, true)
			for _, w := range groupOf(n) {
				if at(d, w.At) != w.Data {
					t.Fatalf("of %d writes: %d is %q", n, w.At, at(d, w.At))
				}
			}
			if at(d, 255) != "other" || at(d, 1) != "" {
				t.Fatalf("of %d writes: %q, %q", n, at(d, 255), at(d, 1))
			}
		}
	}
}

// P21.3: behind a Put that came to its end, and on a disk that was never written to, nothing stands.
func TestNothingStands(t *testing.T) {
	for _, m := range []int{1, 2, 60} {
		d := made(t, 256)
		stands(t, "a new disk", d, 1, m, false)
		puts(t, d, 1, m, groupOf(m))
		stands(t, "Put", d, 1, m, false)
		for _, w := range groupOf(m) {
			if at(d, w.At) != w.Data {
				t.Fatalf("%d is %q", w.At, at(d, w.At))
			}
		}
		for _, x := range []string{"\x01", "\x80", "\xff"} {
			write(t, d, api.Write{At: 1, Data: strings.Repeat(x, 512)})
			stands(t, "a sector of the same bytes", d, 1, m, false)
		}
	}
}

// P21.3: homes that come twice: the bodies go home in their order.
func TestRecoverHomesTwice(t *testing.T) {
	for _, homes := range [][]int{{9, 9}, {9, 8, 9}, {9, 9, 9}, {255, 8, 0, 8, 255}} {
		var group []api.Write
		for i, home := range homes {
			group = append(group, api.Write{At: home, Data: strings.Repeat("\x81", 1+i)})
		}
		d := committed(t, 5, group)
		stands(t, told(group), d, 1, 5, true)
		for home, last := range lastOf(group) {
			if at(d, home) != last {
				t.Fatalf("%s: %d is %q", told(group), home, at(d, home))
			}
		}
	}
}

func lastOf(group []api.Write) map[int]string {
	l := map[int]string{}
	for _, w := range group {
		l[w.At] = w.Data
	}
	return l
}

// P21.3: each error, and which one comes first; beside it false, and nothing written.
func TestRecoverRefuses(t *testing.T) {
	for i, noDisk := range noDisks() {
		for j, noJournal := range noJournals() {
			a := question(t)
			real, same := a.d, sectorsOf(a.d)
			noJournal(&a)
			noDisk(&a)
			want := api.OK
			switch {
			case i > 0:
				want = api.ErrNil
			case j > 0:
				want = api.ErrArg
			}
			is, e := Recover(a.d, a.at, a.m)
			if is != (want == api.OK) || e != want {
				t.Fatalf("disk %d: Recover(%d, %d) = %t, %d, not %d", i, a.at, a.m, is, e, want)
			}
			if want != api.OK && (real.Writes() != 0 || !maps.Equal(sectorsOf(real), same)) {
				t.Fatalf("disk %d: Recover(%d, %d) = %d writes %s", i, a.at, a.m, e, told(real.Log()))
			}
		}
	}
}

// P21.3: a commit at each sector where the journal lies on the disk, and where it does not.
func TestRecoverAtEachSector(t *testing.T) {
	for _, m := range []int{1, 3, 60} {
		for at := -3; at < 260; at++ {
			d := made(t, 256)
			group := []api.Write{{At: max((at+m+2)%256, 0), Data: "a"}}
			if errorOf(256, at, m, group) == api.OK {
				puts(t, d, at, m, group)
				c, _ := d.Cut(2)
				stands(t, "a commit", c, at, m, true)
				continue
			}
			if is, e := Recover(d, at, m); is || e != api.ErrArg || d.Writes() != 0 {
				t.Fatalf("Recover(%d, %d) = %t, %d", at, m, is, e)
			}
		}
	}
}

// texted is a disk with the journal of 2 bodies at 1, whose bodies are a and b, and whose commit sector is that text.
func texted(t *testing.T, text string) *sector.Disk {
	t.Helper()
	d := made(t, 256)
	write(t, d, api.Write{At: 2, Data: "a"}, api.Write{At: 3, Data: "b"}, api.Write{At: 1, Data: text}, api.Write{At: 9, Data: "old"})
	return d
}

// P21.3: another sum than that of what follows.
func TestOtherSum(t *testing.T) {
	group := []api.Write{{At: 9, Data: "a"}, {At: 8, Data: "b"}}
	text := commitOf(group)
	rest := text[4:]
	stands(t, "the commit", texted(t, text), 1, 2, true)
	for _, sum := range []string{
		"\x00\x00\x00\x00", "\xff\xff\xff\xff",
		string([]byte{text[3], text[2], text[1], text[0]}),
		string([]byte{text[0] + 1, text[1], text[2], text[3]}),
		string([]byte{^text[0], ^text[1], ^text[2], ^text[3]}),
		sumOf(filled(text)[4:]), sumOf(rest[:len(rest)-4]), sumOf(rest[1:]), sumOf(""), sumOf(text), sumOf(rest + "\x00"),
		sumOf(string([]byte{0, 0, 0, 0}) + rest),
		commitOf(group[:1])[:4],
	} {
		stands(t, "another sum", texted(t, sum+rest), 1, 2, false)
	}
	for k := range 4 {
		for x := range 256 {
			other := []byte(text)
			other[k] = byte(x)
			stands(t, "another byte of the sum", texted(t, string(other)), 1, 2, byte(x) == text[k])
		}
	}
}

// P21.3: numbers of writes that there are not, each with the sum of what follows.
func TestOtherNumberOfWrites(t *testing.T) {
	a, b, c := nameOf(9, "a"), nameOf(8, "b"), nameOf(7, "")
	stands(t, "two", texted(t, signed("\x02"+a+b)), 1, 2, true)
	for what, text := range map[string]string{
		"0":                          "\x00",
		"0 of one":                   "\x00" + a,
		"1 of two":                   "\x01" + a + b,
		"2 of one":                   "\x02" + a,
		"2 of three":                 "\x02" + a + b + c,
		"3":                          "\x03" + a + b + c,
		"3 of two":                   "\x03" + a + b,
		"60 of two":                  "\x3c" + a + b,
		"61 of two":                  "\x3d" + a + b,
		"2^31 of two":                numberOf(1<<31) + a + b,
		"2^32 and 2 of two":          numberOf(1<<32+2) + a + b,
		"2^63 - 1 of two":            numberOf(math.MaxInt64) + a + b,
		"2^63 of two":                numberOf(1<<63) + a + b,
		"2^63 and 2 of two":          numberOf(1<<63+2) + a + b,
		"2^64 - 1 of two":            numberOf(math.MaxUint64) + a + b,
		"2^64 - 2 of two":            numberOf(math.MaxUint64-1) + a + b,
		"a number of eleven bytes":   strings.Repeat("\x82", 10) + "\x00" + a + b,
		"a number that has no end":   strings.Repeat("\x82", 508),
		"none":                       "",
		"a tenth byte that is above": strings.Repeat("\xff", 9) + "\x02" + a + b,
	} {
		stands(t, what, texted(t, signed(text)), 1, 2, false)
	}
	stands(t, "0, whose sum is left out", texted(t, ""), 1, 2, false)
}

// P21.3: a commit of more writes than the journal has bodies, though as many as a longer one has.
func TestMoreWritesThanBodies(t *testing.T) {
	for n := 1; n <= 60; n++ {
		for _, m := range []int{1, 2, n - 1, n, n + 1, 60} {
			if m < 1 || m > 60 {
				continue
			}
			d := committed(t, 60, groupOf(n))
			stands(t, "a commit, seen by another journal", d, 1, m, n <= m)
		}
	}
}

// P21.3: homes that are no sectors, or the journal's, each with the sum of what follows.
func TestOtherHomes(t *testing.T) {
	for home := range uint64(300) {
		is := home < 256 && (home < 1 || home > 3)
		stands(t, "a home", texted(t, signed("\x01"+nameOf(home, "a"))), 1, 2, is)
		stands(t, "a second home", texted(t, signed("\x02"+nameOf(9, "a")+nameOf(home, "b"))), 1, 2, is)
		stands(t, "a first home", texted(t, signed("\x02"+nameOf(home, "a")+nameOf(9, "b"))), 1, 2, is)
	}
	for _, home := range []uint64{1<<16 + 9, 1 << 17, 1<<17 + 9, 1<<31 - 1, 1 << 31, 1<<32 + 9, 1<<63 - 1, 1 << 63, 1<<63 + 9, math.MaxUint64, math.MaxUint64 - 1, math.MaxUint64 - 246} {
		stands(t, "a home that is far", texted(t, signed("\x01"+nameOf(home, "a"))), 1, 2, false)
		stands(t, "a second home that is far", texted(t, signed("\x02"+nameOf(9, "a")+nameOf(home, "b"))), 1, 2, false)
	}
}

// P21.3: a home that is one sector of a longer journal at the same place.
func TestHomeInALongerJournal(t *testing.T) {
	for m := 1; m <= 60; m++ {
		d := committed(t, 1, []api.Write{{At: 20, Data: "a"}})
		stands(t, "a commit, seen by a longer journal", d, 1, m, m < 19)
	}
}

// P21.3: bodies whose bytes have another sum.
func TestOtherBodies(t *testing.T) {
	group := []api.Write{{At: 9, Data: "a"}, {At: 8, Data: "b"}}
	text := commitOf(group)
	for body := 2; body <= 3; body++ {
		same := texted(t, text)
		was, _ := same.Read(body)
		for bit := range 4096 {
			d := same.Copy()
			other := []byte(was)
			other[bit/8] ^= 1 << (bit % 8)
			write(t, d, api.Write{At: body, Data: string(other)})
			stands(t, "a bit of a body", d, 1, 2, false)
		}
		for _, data := range []string{"", "c", "aa", "bb", "a\x00\x00b", strings.Repeat("\xff", 512)} {
			d := same.Copy()
			write(t, d, api.Write{At: body, Data: data})
			stands(t, "another body", d, 1, 2, false)
			write(t, d, api.Write{At: body, Data: was})
			stands(t, "the body again", d, 1, 2, true)
		}
	}
	d := texted(t, text)
	write(t, d, api.Write{At: 2, Data: "b"}, api.Write{At: 3, Data: "a"})
	stands(t, "bodies in another order", d, 1, 2, false)
	d = texted(t, commitOf(group[:1]))
	write(t, d, api.Write{At: 3, Data: "junk"})
	stands(t, "another body behind the last one that the commit names", d, 1, 2, true)
	stands(t, "the body one further on", texted(t, commitOf(group[1:])), 1, 2, false)
	stands(t, "sums of the data alone", texted(t, signed("\x01\x09"+sumOf("a"))), 1, 2, false)
}

// P21.3: a byte that is not 0 behind the commit, whether the sum is over it or not.
func TestByteBehind(t *testing.T) {
	text := commitOf([]api.Write{{At: 9, Data: "a"}, {At: 8, Data: "b"}})
	for i := len(text); i < 512; i++ {
		for _, x := range []string{"\x01", "\x80", "\xff"} {
			long := text + blank[len(text):i] + x
			stands(t, "a byte behind the commit", texted(t, long), 1, 2, false)
			stands(t, "a byte behind the commit, in its sum", texted(t, signed(long[4:])), 1, 2, false)
		}
		stands(t, "bytes 0 behind the commit, in its sum", texted(t, signed((text + blank[:i-len(text)+1])[4:])), 1, 2, false)
	}
}

// P21.3: a commit whose own last bytes, or first ones, are 0 stands as any other one.
func TestCommitWithBytes0AtAnEnd(t *testing.T) {
	sorts := []func(text string) bool{
		func(text string) bool { return strings.HasSuffix(text, "\x00\x00") },
		func(text string) bool { return strings.HasPrefix(text, "\x00\x00") },
		func(text string) bool { return strings.HasSuffix(text, "\x00") },
		func(text string) bool { return strings.HasPrefix(text, "\x00") },
	}
	for i, is := range sorts {
		found := 0
		for k := 0; k < 1<<20 && found < 4; k++ {
			data := numberOf(uint64(k))
			text := commitOf([]api.Write{{At: 9, Data: data}})
			if !is(text) {
				continue
			}
			found++
			d := made(t, 256)
			write(t, d, api.Write{At: 2, Data: data}, api.Write{At: 1, Data: text})
			stands(t, "a commit with bytes 0 at an end", d, 1, 2, true)
		}
		if found < 4 {
			t.Errorf("of the sort %d just %d commits were met", i, found)
		}
	}
}

// P21.3: numbers that are written in more bytes than they need.
func TestLongerNumbers(t *testing.T) {
	a, b := nameOf(9, "a"), nameOf(8, "b")
	longer := func(n byte, bytes int) string {
		return string([]byte{n | 128}) + strings.Repeat("\x80", bytes-2) + "\x00"
	}
	for bytes := 2; bytes <= 11; bytes++ {
		stands(t, "the number of writes", texted(t, signed(longer(2, bytes)+a+b)), 1, 2, false)
		stands(t, "the first home", texted(t, signed("\x02"+longer(9, bytes)+a[1:]+b)), 1, 2, false)
		stands(t, "the second home", texted(t, signed("\x02"+a+longer(8, bytes)+b[1:])), 1, 2, false)
	}
	// The sum is over the number as it is, or as it would have to be.
	stands(t, "the number of writes, with the sum of the short one", texted(t, sumOf("\x02"+a+b)+longer(2, 2)+a+b), 1, 2, false)
	stands(t, "the first home, with the sum of the short one", texted(t, sumOf("\x02"+a+b)+"\x02"+longer(9, 2)+a[1:]+b), 1, 2, false)
}

// P21.3: a commit that is cut short, by the sector's end, or by bytes 0.
func TestCutShort(t *testing.T) {
	var group []api.Write
	d := made(t, 1<<17)
	for i := range 60 {
		group = append(group, api.Write{At: 1<<17 - 1 - i, Data: strings.Repeat("\xff", 1+i)})
	}
	for i, w := range group {
		write(t, d, api.Write{At: 1 + i, Data: w.Data})
	}
	text := commitOf(group)
	for n := range len(text) {
		for _, short := range []string{text[:n], signed(text[min(n, 4):n]), signed(text[len(text)-n:])} {
			write(t, d, api.Write{At: 0, Data: short})
			stands(t, "a part of a commit", d, 0, 60, filled(short) == filled(text))
		}
	}
	// Homes that are none can be so long that sixty of them go over the sector's end, within any part of one.
	for bytes := 4; bytes <= 10; bytes++ {
		long := "\x3c"
		for _, w := range group {
			long += nameOf(1<<(7*(bytes-1)), w.Data)
		}
		for ahead := range 12 {
			all := (long[:1] + strings.Repeat(nameOf(9, "\xff"), ahead) + long[1:])
			all = all[:min(len(all), 508)]
			write(t, d, api.Write{At: 0, Data: signed(all)})
			stands(t, "a commit that goes over the sector's end", d, 0, 60, false)
		}
	}
	write(t, d, api.Write{At: 0, Data: text})
	stands(t, "the whole commit", d, 0, 60, true)
}

// P21.3: a commit that stands, with one of its bits turned, or one of those behind it.
func TestEachBit(t *testing.T) {
	for _, n := range []int{1, 2, 60} {
		d := committed(t, n, groupOf(n))
		was, _ := d.Read(1)
		for bit := range 4096 {
			other := []byte(was)
			other[bit/8] ^= 1 << (bit % 8)
			write(t, d, api.Write{At: 1, Data: string(other)})
			stands(t, "a bit of the commit sector", d, 1, n, false)
		}
		write(t, d, api.Write{At: 1, Data: was})
		stands(t, "the commit again", d, 1, n, true)
	}
}

// P21.3: a commit that stands, with each of its bytes another one.
func TestEachByte(t *testing.T) {
	text := commitOf([]api.Write{{At: 9, Data: "a"}, {At: 200, Data: "b"}})
	d := texted(t, text)
	for i := range text {
		for x := range 256 {
			other := []byte(text)
			other[i] = byte(x)
			if byte(x) == text[i] {
				continue
			}
			write(t, d, api.Write{At: 1, Data: string(other)})
			stands(t, "another byte", d, 1, 2, false)
			write(t, d, api.Write{At: 1, Data: signed(string(other[4:]))})
			// With a sum that is right again another home may be one, too.
			recovers(t, d, 1, 2)
		}
	}
}

// P21.3: drawn texts that have the right sum, so that all that follows it is asked.
func TestRecoverDrawn(t *testing.T) {
	r := drawer(3)
	found := 0
	for range 30000 {
		m := 1 + r.IntN(4)
		sectors := 256 + r.IntN(2)*16200
		at := r.IntN(10)
		d := made(t, sectors)
		n := r.IntN(6)
		text := numberOf(uint64(n))
		for i := range n {
			data := someData(r)
			if i < m {
				write(t, d, api.Write{At: at + 1 + i, Data: data})
			}
			home := uint64(r.IntN(20))
			switch r.IntN(8) {
			case 0:
				home = uint64(sectors - 3 + r.IntN(5))
			case 1:
				home = r.Uint64() >> r.IntN(64)
			}
			if r.IntN(15) == 0 {
				data = someData(r)
			}
			text += nameOf(home, data)
		}
		if r.IntN(20) == 0 {
			text += drawn(r, r.IntN(5))
		}
		write(t, d, api.Write{At: at, Data: signed(text)})
		if recovers(t, d, at, m) {
			found++
		}
	}
	if found < 1000 {
		t.Errorf("just %d commits stood", found)
	}
}

// R1: drawn bytes, none of which makes a commit that stands.
func TestRecoverAnyBytes(t *testing.T) {
	r := drawer(4)
	d := made(t, 256)
	for range 20000 {
		s := drawn(r, r.IntN(513))
		if r.IntN(2) == 0 {
			s = signed(drawn(r, r.IntN(509)))
		}
		i := r.IntN(6)
		write(t, d, api.Write{At: i, Data: s})
		recovers(t, d, i, 1+r.IntN(60))
	}
}
