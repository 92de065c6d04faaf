package journal

import (
	"maps"
	"math"
	"math/rand/v2"
	"slices"
	"strings"
	"sync"
	"testing"

	"bedrock/api"
	"bedrock/sector"
)

// lossy is a Put whose disk loses its power, and what must be there behind that.
type lossy struct {
	at, m int
	// want is what the disk's other sectors must have.
	want map[int]string
}

// others are the sectors that are not the journal's, as far as they have a byte that is not 0.
func (l lossy) others(d *sector.Disk) map[int]string {
	s := sectorsOf(d)
	maps.DeleteFunc(s, func(i int, _ string) bool { return i >= l.at && i <= l.at+l.m })
	return s
}

// holds has Recover go over a disk, wholly, and cut at each of its writes and again, so deep. It tells how often it came to its end.
func (l lossy) holds(t *testing.T, d *sector.Disk, deep int, stands bool) int {
	t.Helper()
	was := d.Copy()
	if got := recovers(t, was, l.at, l.m); got != stands {
		t.Fatalf("Recover = %t, not %t", got, stands)
	}
	if got := l.others(was); !maps.Equal(got, l.want) {
		t.Fatalf("behind Recover there are the sectors %v, not %v", keysOf(got), keysOf(l.want))
	}
	again := was.Copy()
	again.Mark()
	if is, e := Recover(again, l.at, l.m); is || e != api.OK || again.Writes() != 0 {
		t.Fatalf("a Recover behind it = %t, %d, writes %s", is, e, told(again.Log()))
	}
	ends := 1
	if deep == 0 {
		return ends
	}
	for k := range was.Writes() + 1 {
		c, e := was.Cut(k)
		if e != api.OK {
			t.Fatalf("Cut(%d) = %d", k, e)
		}
		// The commit stands until the last of the writes takes it away.
		ends += l.holds(t, c, deep-1, stands && k < was.Writes())
	}
	return ends
}

func keysOf(l map[int]string) []int { return slices.Sorted(maps.Keys(l)) }

// putIsWhole puts a group on a disk on which no commit stands, and cuts it at each of the writes. It tells how many Recovers came to their end.
func putIsWhole(t *testing.T, d *sector.Disk, at, m int, group []api.Write, deep int) int {
	t.Helper()
	if standingOf(d, at, m) != nil {
		t.Fatal("a commit stands already")
	}
	l := lossy{at: at, m: m}
	old := l.others(d)
	done := d.Copy()
	puts(t, done, at, m, group)
	whole := l.others(done)
	behind := maps.Clone(old)
	for _, w := range group {
		behind[w.At] = filled(w.Data)
	}
	maps.DeleteFunc(behind, func(_ int, s string) bool { return s == blank })
	if !maps.Equal(whole, behind) {
		t.Fatalf("behind Put there are the sectors %v, not %v", keysOf(whole), keysOf(behind))
	}
	committed := slices.IndexFunc(done.Log(), func(w api.Write) bool { return w.At == at && w.Data != blank })
	ends := 0
	for k := range done.Writes() + 1 {
		c, _ := done.Cut(k)
		l.want = old
		if k > committed {
			l.want = whole
		}
		ends += l.holds(t, c, deep, k > committed && k < done.Writes())
	}
	return ends
}

// someDisk is drawn: with homes, bodies and a commit sector that were written to ahead.
func someDisk(r *rand.Rand, t *testing.T, at, m int) *sector.Disk {
	t.Helper()
	d := made(t, 256+r.IntN(2))
	for range r.IntN(20) {
		write(t, d, api.Write{At: r.IntN(256), Data: someData(r)})
	}
	for i := range m {
		if r.IntN(2) == 0 {
			write(t, d, api.Write{At: at + 1 + i, Data: someData(r)})
		}
	}
	if r.IntN(2) == 0 {
		write(t, d, api.Write{At: at, Data: someData(r)})
	}
	return d
}

// P21.4: drawn disks, journals and groups; each Put is cut at each of its writes, and each Recover too, three deep.
func TestWhole(t *testing.T) {
	r := drawer(10)
	ends := 0
	for range 250 {
		m := 1 + r.IntN(4)
		at := r.IntN(256 - m)
		if r.IntN(3) == 0 {
			at = []int{0, 1, 255 - m}[r.IntN(3)]
		}
		d := someDisk(r, t, at, m)
		ends += putIsWhole(t, d, at, m, someGroup(r, d.Len(), at, m, 1+r.IntN(m)), 3)
	}
	if ends < 50000 {
		t.Errorf("just %d Recovers came to their end", ends)
	}
}

// P21.4: long groups, each Put and each Recover cut at each of the writes once.
func TestWholeOfLongGroups(t *testing.T) {
	r := drawer(11)
	for _, m := range []int{5, 9, 17, 30, 59, 60} {
		at := r.IntN(256 - m)
		d := someDisk(r, t, at, m)
		deep := 1
		if m < 10 {
			deep = 2
		}
		putIsWhole(t, d, at, m, someGroup(r, d.Len(), at, m, m), deep)
	}
}

// P21.4: on a new disk, and with every home written to ahead.
func TestWholeByHand(t *testing.T) {
	for _, homes := range [][]int{{9, 8}, {9, 9}, {0, 255}, {4}, {0}, {255}, {9, 8, 9}} {
		var group []api.Write
		for i, home := range homes {
			group = append(group, api.Write{At: home, Data: strings.Repeat("\xfe", 1+i)})
		}
		d := made(t, 256)
		putIsWhole(t, d, 1, len(homes), group, 3)
		for _, home := range homes {
			write(t, d, api.Write{At: home, Data: "old"})
		}
		putIsWhole(t, d, 1, len(homes), group, 3)
		// Also where the group takes away what was there.
		for i := range group {
			group[i].Data = ""
		}
		putIsWhole(t, d, 1, len(homes), group, 3)
	}
}

// P21.4: Puts and losses of power one behind the other, each behind a Recover: the bodies have what older groups left there.
func TestWholeAgainAndAgain(t *testing.T) {
	r := drawer(12)
	for range 60 {
		m := 1 + r.IntN(5)
		at := r.IntN(256 - m)
		d := someDisk(r, t, at, m)
		l := lossy{at: at, m: m}
		for range 30 {
			group := someGroup(r, d.Len(), at, m, r.IntN(m+1))
			l.want = l.others(d)
			puts(t, d, at, m, group)
			k := r.IntN(d.Writes() + 1)
			if slices.ContainsFunc(d.Log()[:k], func(w api.Write) bool { return w.At == at && w.Data != blank }) {
				l.want = l.others(d)
			}
			d, _ = d.Cut(k)
			for r.IntN(3) > 0 {
				recovers(t, d, at, m)
				d, _ = d.Cut(r.IntN(d.Writes() + 1))
			}
			recovers(t, d, at, m)
			if got := l.others(d); !maps.Equal(got, l.want) {
				t.Fatalf("cut at %d, and Recover: the sectors %v, not %v", k, keysOf(got), keysOf(l.want))
			}
		}
	}
}

// P21.2, P21.3: a Put over an older commit that stands takes that one away first. Just if the power goes ahead of that write is it the older one that Recover finds.
func TestPutOverACommit(t *testing.T) {
	older := []api.Write{{At: 9, Data: "older"}, {At: 20, Data: "older"}}
	d := committed(t, 2, older)
	puts(t, d, 1, 2, []api.Write{{At: 9, Data: "newer"}})
	for k, want := range [][2]string{{"older", "older"}, {"", ""}, {"", ""}, {"newer", ""}, {"newer", ""}, {"newer", ""}} {
		c, e := d.Cut(k)
		if e != api.OK {
			t.Fatalf("Cut(%d) = %d", k, e)
		}
		recovers(t, c, 1, 2)
		if got := [2]string{at(c, 9), at(c, 20)}; got != want {
			t.Errorf("cut at %d: %q, not %q", k, got, want)
		}
	}
}

// P21.5: the group that is handed in stays, and what is changed of it behind Put changes nothing.
func TestGroupStays(t *testing.T) {
	for n := range 9 {
		d := made(t, 256)
		room := make([]api.Write, 20)
		group := append(room[:3], groupOf(n)...)[3:]
		all := slices.Clone(room)
		puts(t, d, 1, 8, group)
		if !slices.Equal(room, all) {
			t.Fatal("what is around the group was changed")
		}
		log, sectors := d.Log(), sectorsOf(d)
		clear(room)
		if !slices.Equal(d.Log(), log) || !maps.Equal(sectorsOf(d), sectors) {
			t.Fatal("the group is kept")
		}
	}
}

// P21.5: of disks with the same beginning the one that is handed in alone changes.
func TestOtherDisksStay(t *testing.T) {
	d := committed(t, 2, groupOf(2))
	twin := d.Copy()
	same, log := sectorsOf(twin), twin.Log()
	recovers(t, d, 1, 2)
	puts(t, d, 1, 2, groupOf(1))
	if !maps.Equal(sectorsOf(twin), same) || !slices.Equal(twin.Log(), log) {
		t.Error("another disk was changed")
	}
}

// edge draws any number, often one at an end of something.
func edge(r *rand.Rand) int {
	switch r.IntN(4) {
	case 0:
		return int(r.Uint64()) >> r.IntN(64)
	case 1:
		return []int{math.MinInt, math.MinInt + 1, math.MaxInt, math.MaxInt - 1, math.MaxInt - 60, math.MaxInt - 61, -1, 0, 59, 60, 61, 194, 195, 196, 255, 256}[r.IntN(16)]
	case 2:
		return r.IntN(70) - 3
	}
	return r.IntN(270) - 7
}

// R1, R2: any numbers, disks that are none, nil and empty groups.
func TestAnyNumbers(t *testing.T) {
	r := drawer(13)
	none := []*sector.Disk{nil, {}, new(sector.Disk)}
	for range 40000 {
		at, m := edge(r), edge(r)
		var group []api.Write
		if r.IntN(5) == 0 {
			group = []api.Write{}
		}
		for range r.IntN(4) {
			group = append(group, api.Write{At: edge(r), Data: strings.Repeat("\xff", r.IntN(520))})
		}
		d := made(t, 256)
		if want := errorOf(256, at, m, group); want == api.OK {
			puts(t, d, at, m, group)
		} else if got := Put(d, at, m, group); got != want || d.Writes() != 0 {
			t.Fatalf("Put(%d, %d, %s) = %d, not %d", at, m, told(group), got, want)
		}
		if want := errorOf(256, at, m, nil); want == api.OK {
			recovers(t, d, at, m)
		} else if is, e := Recover(d, at, m); is || e != want {
			t.Fatalf("Recover(%d, %d) = %t, %d, not %d", at, m, is, e, want)
		}
		no := none[r.IntN(len(none))]
		if e := Put(no, at, m, group); e != api.ErrNil {
			t.Fatalf("Put(none, %d, %d) = %d", at, m, e)
		}
		if is, e := Recover(no, at, m); is || e != api.ErrNil {
			t.Fatalf("Recover(none, %d, %d) = %t, %d", at, m, is, e)
		}
	}
}

// R6: the same calls are answered the same, also those that go on at once.
func TestTheSameTwice(t *testing.T) {
	run := func() []api.Write {
		r := drawer(14)
		d, _ := sector.New(256)
		for range 200 {
			Put(d, 1, 5, someGroup(r, 256, 1, 5, r.IntN(6)))
			Recover(d, 1, 5)
		}
		return d.Log()
	}
	first := run()
	var wait sync.WaitGroup
	for range 4 {
		wait.Go(func() {
			if !slices.Equal(run(), first) {
				t.Error("the same calls write otherwise")
			}
		})
	}
	wait.Wait()
}
