package journal

import (
	"encoding/hex"
	"maps"
	"math"
	"slices"
	"strings"
	"testing"

	"bedrock/api"
	"bedrock/sector"
)

// P21.1: all numbers around those of which there are journals, and such as are far away from them.
func TestSize(t *testing.T) {
	for m, want := range map[int]int{0: 0, 1: 2, 2: 3, 59: 60, 60: 61, 61: 0, -1: 0, math.MinInt: 0, math.MaxInt: 0} {
		if got := Size(m); got != want {
			t.Errorf("Size(%d) = %d, not %d", m, got, want)
		}
	}
	for m := -5000; m <= 5000; m++ {
		want := 0
		if m >= 1 && m <= 60 {
			want = m + 1
		}
		if got := Size(m); got != want {
			t.Errorf("Size(%d) = %d, not %d", m, got, want)
		}
	}
	for _, m := range []int{math.MinInt32, math.MaxInt32, 1 << 32, 1<<32 + 1, 1<<32 + 60, -1 << 32, math.MinInt + 1, math.MinInt + 2, math.MinInt + 60, math.MaxInt - 1} {
		if got := Size(m); got != 0 {
			t.Errorf("Size(%d) = %d", m, got)
		}
	}
}

// asked is what Put, and Recover, are asked.
type asked struct {
	d     *sector.Disk
	at, m int
	group []api.Write
}

// flaw makes something wrong in what is asked.
type flaw func(a *asked)

// noFlaw stands first in each step, so that it is also gone through without that step's flaws.
func noFlaw(*asked) {}

// noDisks make the disk one that is none.
func noDisks() []flaw {
	var zero sector.Disk
	return []flaw{
		noFlaw,
		func(a *asked) { a.d = nil },
		func(a *asked) { a.d = &sector.Disk{} },
		func(a *asked) { a.d = &zero },
	}
}

// noJournals make the journal one that does not lie on the disk.
func noJournals() []flaw {
	l := []flaw{noFlaw}
	for _, m := range []int{0, -1, 61, 62, 255, 256, 1<<32 + 2, math.MinInt, math.MinInt + 1, math.MaxInt, math.MaxInt - 1} {
		l = append(l, func(a *asked) { a.m = m })
	}
	for _, i := range []int{-1, -2, -3, -10, 254, 255, 256, 257, 1 << 17, 1<<32 + 10, math.MinInt, math.MinInt + 1, math.MaxInt, math.MaxInt - 1, math.MaxInt - 2, math.MaxInt - 3} {
		l = append(l, func(a *asked) { a.at = i })
	}
	return append(l, func(a *asked) { a.at, a.m = -1, 0 }, func(a *asked) { a.at, a.m = math.MaxInt, math.MaxInt })
}

// tooLong make the group one that does not go into the journal.
func tooLong() []flaw {
	more := func(n int) flaw {
		return func(a *asked) {
			for i := range n {
				a.group = append(a.group, api.Write{At: 100 + i})
			}
		}
	}
	longer := func(k, n int) flaw {
		return func(a *asked) { a.group[k].Data = strings.Repeat("\x00", n) }
	}
	return []flaw{noFlaw, more(1), more(2), more(59), more(1000), longer(0, 513), longer(1, 513), longer(0, 1<<16+3), longer(1, 1024)}
}

// noHomes make a home what is none.
func noHomes() []flaw {
	l := []flaw{noFlaw}
	for _, home := range []int{-1, -2, -255, 256, 257, 1 << 17, 1<<32 + 20, math.MinInt, math.MinInt + 1, math.MinInt32, math.MaxInt, math.MaxInt - 1, 10, 11, 12} {
		for k := range 2 {
			l = append(l, func(a *asked) { a.group[k].At = home })
		}
	}
	return l
}

// question is one without flaws: on a disk on which another group's commit stands.
func question(t *testing.T) asked {
	t.Helper()
	a := asked{d: made(t, 256), at: 10, m: 2, group: []api.Write{{At: 20, Data: "a"}, {At: 9, Data: strings.Repeat("\xfe", 512)}}}
	write(t, a.d, api.Write{At: 30, Data: "old"}, api.Write{At: 11, Data: "new"})
	write(t, a.d, api.Write{At: 10, Data: commitOf([]api.Write{{At: 30, Data: "new"}})})
	a.d.Mark()
	return a
}

// P21.2: each error, and of each two and more that apply the one that is named first; nothing is written then.
func TestPutRefuses(t *testing.T) {
	for i, noDisk := range noDisks() {
		for j, noJournal := range noJournals() {
			for k, long := range tooLong() {
				for l, noHome := range noHomes() {
					a := question(t)
					real, same, group := a.d, sectorsOf(a.d), slices.Clone(a.group)
					noHome(&a)
					long(&a)
					noJournal(&a)
					noDisk(&a)
					want := api.OK
					switch {
					case i > 0:
						want = api.ErrNil
					case j > 0:
						want = api.ErrArg
					case k > 0:
						want = api.ErrLong
					case l > 0:
						want = api.ErrArg
					}
					handed := slices.Clone(a.group)
					if got := Put(a.d, a.at, a.m, a.group); got != want {
						t.Fatalf("disk %d, journal %d, long %d, home %d: Put(%d, %d, %s) = %d, not %d", i, j, k, l, a.at, a.m, told(a.group), got, want)
					}
					if !slices.Equal(a.group, handed) {
						t.Fatalf("behind Put the group is %s, not %s", told(a.group), told(handed))
					}
					if want != api.OK && (real.Writes() != 0 || !maps.Equal(sectorsOf(real), same)) {
						t.Fatalf("a Put that answers %d writes %s", want, told(real.Log()))
					}
					if want == api.OK && (at(real, 20) != "a" || at(real, 9) != group[1].Data || at(real, 30) != "old") {
						t.Fatalf("Put writes %s", told(real.Log()))
					}
				}
			}
		}
	}
}

// P21.2, P21.3: a journal that is none is refused with an empty group, too.
func TestEmptyGroupRefused(t *testing.T) {
	for i, noDisk := range noDisks() {
		for j, noJournal := range noJournals() {
			for _, group := range [][]api.Write{nil, {}} {
				a := question(t)
				real, same := a.d, sectorsOf(a.d)
				noJournal(&a)
				noDisk(&a)
				want := api.OK
				switch {
				case i > 0:
					want = api.ErrNil
				case j > 0:
					want = api.ErrArg
				}
				if got := Put(a.d, a.at, a.m, group); got != want {
					t.Fatalf("disk %d: Put(%d, %d, nothing) = %d, not %d", i, a.at, a.m, got, want)
				}
				if real.Writes() != 0 || !maps.Equal(sectorsOf(real), same) {
					t.Fatalf("disk %d: Put(%d, %d, nothing) writes %s", i, a.at, a.m, told(real.Log()))
				}
			}
		}
	}
}

// P21.2: an empty group writes nothing, whatever stands in the commit sector, and however many bodies there are.
func TestEmptyGroup(t *testing.T) {
	for m := 1; m <= 60; m++ {
		for _, data := range []string{"", "x", commitOf(groupOf(1)), strings.Repeat("\xff", 512)} {
			for _, group := range [][]api.Write{nil, {}, make([]api.Write, 0, 9)} {
				d := made(t, 256)
				write(t, d, api.Write{At: 7, Data: data})
				puts(t, d, 7, m, group)
				if d.Writes() != 0 || at(d, 7) != strings.TrimRight(data, "\x00") {
					t.Fatalf("Put of nothing writes %s", told(d.Log()))
				}
			}
		}
	}
}

// P21.2: groups of each number of writes up to m, and of more, at both ends of disks and between.
func TestPutOfEachNumber(t *testing.T) {
	for _, m := range []int{1, 2, 3, 59, 60} {
		for n := range m + 5 {
			for _, at := range []int{0, 1, 30, 255 - m - 1, 255 - m} {
				d := made(t, 256)
				group := groupOf(n)
				for i := range group {
					// Those that lie in the journal go to the other end.
					if group[i].At >= at && group[i].At <= at+m {
						group[i].At = (group[i].At + 70) % 256
					}
				}
				if n <= m {
					puts(t, d, at, m, group)
					continue
				}
				if e := Put(d, at, m, group); e != api.ErrLong || d.Writes() != 0 {
					t.Fatalf("Put of %d writes, m %d = %d", n, m, e)
				}
			}
		}
	}
}

// P21.2: a journal may be anywhere where all of it lies on the disk, on disks of any length.
func TestPutAtEachSector(t *testing.T) {
	for _, m := range []int{1, 2, 5, 60} {
		for at := -3; at < 260; at++ {
			d := made(t, 256)
			home := (at + m + 2) % 256
			group := []api.Write{{At: max(home, 0), Data: "a"}}
			if e := errorOf(256, at, m, group); e != api.OK {
				if got := Put(d, at, m, group); got != e || d.Writes() != 0 {
					t.Fatalf("Put(%d, %d) = %d, not %d", at, m, got, e)
				}
				continue
			}
			puts(t, d, at, m, group)
		}
	}
	for _, n := range []int{257, 1000, 1<<17 - 1, 1 << 17} {
		puts(t, made(t, n), n-61, 60, []api.Write{{At: n - 62, Data: "a"}, {At: 0, Data: "b"}})
		if e := Put(made(t, n), n-60, 60, []api.Write{{At: 1, Data: "a"}}); e != api.ErrArg {
			t.Fatalf("Put of a journal that ends behind the disk's last sector = %d", e)
		}
	}
}

// P21.2: every sector as a home: all but the journal's are.
func TestEachHome(t *testing.T) {
	for _, at := range []int{0, 1, 100, 253} {
		for home := -70; home < 330; home++ {
			d := made(t, 256)
			for _, group := range [][]api.Write{{{At: home, Data: "a"}}, {{At: 50, Data: "b"}, {At: home, Data: "a"}}} {
				if e := errorOf(256, at, 2, group); e != api.OK {
					d.Mark()
					if got := Put(d, at, 2, group); got != e || d.Writes() != 0 {
						t.Fatalf("Put at %d of %s = %d, not %d", at, told(group), got, e)
					}
					continue
				}
				puts(t, d, at, 2, group)
			}
		}
	}
}

// P21.2: data of each length, with bytes above 127, and bytes 0 at its end.
func TestDataOfEveryLength(t *testing.T) {
	r := drawer(1)
	d := made(t, 256)
	for n := range 513 {
		puts(t, d, 3, 4, []api.Write{{At: 20, Data: drawn(r, n)}, {At: 2, Data: strings.Repeat("\xff", n)}, {At: 8, Data: blank[:n]}, {At: 255, Data: drawn(r, 512-n)}})
	}
}

// P21.2: every byte, and texts of all sorts, are bytes and nothing else.
func TestDataOfEveryByte(t *testing.T) {
	d := made(t, 256)
	for x := range 256 {
		s := string([]byte{byte(x)})
		puts(t, d, 3, 2, []api.Write{{At: 20, Data: s}, {At: 21, Data: strings.Repeat(s, 512)}})
	}
	for _, s := range []string{"\x00a", "a\x00b\x00", "\xc3", "\xe2\x82", "é", "岩盤", "\xed\xa0\x80", "\ufeffa", "a\r\nb"} {
		puts(t, d, 3, 2, []api.Write{{At: 20, Data: s}, {At: 21, Data: s + s}})
	}
}

// P21.2: homes that come twice, or in any order: the last one stays.
func TestHomesTwice(t *testing.T) {
	d := made(t, 256)
	for _, homes := range [][]int{{9, 9}, {9, 9, 9}, {9, 8, 9}, {200, 8, 0, 8, 200}, {9, 8, 7, 6, 5}, {255, 0, 255, 0}} {
		var group []api.Write
		for i, home := range homes {
			group = append(group, api.Write{At: home, Data: strings.Repeat("\x81", 1+i)})
		}
		puts(t, d, 20, 5, group)
		for i, home := range homes {
			if !slices.Contains(homes[i+1:], home) && at(d, home) != group[i].Data {
				t.Fatalf("Put of %s: %d is %q", told(group), home, at(d, home))
			}
		}
		puts(t, d, 20, 5, []api.Write{group[0], group[0]})
	}
}

// P21.2: the commit sector is written ahead of the bodies just if it has a byte that is not 0, wherever that byte is.
func TestCommitSectorAhead(t *testing.T) {
	group := []api.Write{{At: 9, Data: "a"}, {At: 8, Data: "b"}}
	for i := range 512 {
		for _, x := range []string{"\x01", "\x80", "\xff", " "} {
			d := made(t, 256)
			write(t, d, api.Write{At: 1, Data: blank[:i] + x})
			puts(t, d, 1, 2, group)
			if !slices.Equal(homesOf(d.Log()), []int{1, 2, 3, 1, 9, 8, 1}) {
				t.Fatalf("with a byte %d that is not 0: %s", i, told(d.Log()))
			}
		}
	}
	for _, data := range []string{"", blank} {
		d := made(t, 256)
		write(t, d, api.Write{At: 1, Data: "x"}, api.Write{At: 1, Data: data}, api.Write{At: 0, Data: "x"}, api.Write{At: 2, Data: "x"}, api.Write{At: 3, Data: "x"})
		puts(t, d, 1, 2, group)
		if !slices.Equal(homesOf(d.Log()), []int{2, 3, 1, 9, 8, 1}) {
			t.Fatalf("with bytes 0 alone: %s", told(d.Log()))
		}
	}
}

// P21.2: what a body has ahead of Put, and what the homes have, hangs on nothing: each is written.
func TestSameDataIsWritten(t *testing.T) {
	d := made(t, 256)
	group := []api.Write{{At: 9, Data: "a"}, {At: 8, Data: ""}, {At: 7, Data: blank}}
	for range 3 {
		puts(t, d, 1, 3, group)
		if len(d.Log()) != 8 {
			t.Fatalf("Put writes %s", told(d.Log()))
		}
	}
}

// P21.2: commits that are laid out by hand, byte for byte.
func TestCommitByHand(t *testing.T) {
	for _, x := range []struct {
		group []api.Write
		want  string
	}{
		{[]api.Write{{At: 9, Data: "a"}, {At: 8, Data: "b"}}, "1d12fc59" + "02" + "09" + "802ba9b7" + "08" + "79dff575"},
		{[]api.Write{{At: 9, Data: "a"}}, "25ebd648" + "01" + "09" + "802ba9b7"},
		{[]api.Write{{At: 200, Data: ""}}, "778a0f69" + "01" + "c801" + "c0edfc30"},
		{[]api.Write{{At: 0, Data: strings.Repeat("\xff", 512)}}, "c4683fd3" + "01" + "00" + "9792d95b"},
		{[]api.Write{{At: 127, Data: "\x80"}, {At: 128, Data: "\x00"}, {At: 255, Data: "\x00\x01"}}, "b8599d3d" + "03" + "7f" + "cf350094" + "8001" + "c0edfc30" + "ff01" + "2f2be97c"},
		{[]api.Write{{At: 131071, Data: "z"}, {At: 16383, Data: "y"}, {At: 16384, Data: "x"}}, "bc16320a" + "03" + "ffff07" + "974e7b7b" + "ff7f" + "6eba27b9" + "808001" + "963b4804"},
	} {
		want, e := hex.DecodeString(x.want)
		if e != nil {
			t.Fatal(e)
		}
		d := made(t, 1<<17)
		puts(t, d, 1, 3, x.group)
		got := d.Log()[len(x.group)]
		if got.At != 1 || got.Data != filled(string(want)) {
			t.Errorf("the commit of %s is %x", told(x.group), strings.TrimRight(got.Data, "\x00"))
		}
	}
}

// P21.2: a commit of sixty writes to the homes with the greatest numbers goes into its sector.
func TestGreatestCommit(t *testing.T) {
	d := made(t, 1<<17)
	var group []api.Write
	for i := range 60 {
		group = append(group, api.Write{At: 1<<17 - 1 - i, Data: strings.Repeat("\xff", 512-i)})
	}
	puts(t, d, 0, 60, group)
	if got := strings.TrimRight(d.Log()[60].Data, "\x00"); len(got) != 425 {
		t.Errorf("it has %d bytes", len(got))
	}
	c, _ := d.Cut(61)
	if !recovers(t, c, 0, 60) {
		t.Error("it does not stand")
	}
}

// P21.2: any numbers, of drawn disks, journals and groups.
func TestPutDrawn(t *testing.T) {
	r := drawer(2)
	for range 4000 {
		sectors := 256 + r.IntN(3)
		d := made(t, sectors)
		for range r.IntN(4) {
			write(t, d, api.Write{At: r.IntN(30), Data: someData(r)})
		}
		at, m := r.IntN(30)-1, r.IntN(8)
		if r.IntN(4) == 0 {
			at = sectors - r.IntN(12)
		}
		var group []api.Write
		for range r.IntN(m + 2) {
			w := api.Write{At: r.IntN(60) - 1, Data: someData(r)}
			switch r.IntN(20) {
			case 0:
				w.At = sectors - r.IntN(3)
			case 1:
				w.Data += blank
			case 2:
				w.At = int(r.Uint64()) >> r.IntN(64)
			}
			group = append(group, w)
		}
		want := errorOf(sectors, at, m, group)
		if want == api.OK {
			puts(t, d, at, m, group)
			continue
		}
		d.Mark()
		if got := Put(d, at, m, group); got != want || d.Writes() != 0 {
			t.Fatalf("Put(%d, %d, %s) = %d, not %d, writes %s", at, m, told(group), got, want, told(d.Log()))
		}
	}
}
