package freemap

import (
	"math/rand/v2"
	"slices"
	"sync"
	"testing"

	"bedrock/api"
)

// script draws maps' calls.
type script struct {
	r    *rand.Rand
	maps []both
}

func drawnScript(t *testing.T, r *rand.Rand) *script {
	t.Helper()
	n := 256 + r.IntN(130)
	if r.IntN(4) == 0 {
		n = sizes[r.IntN(len(sizes)-2)]
	}
	return &script{r, []both{fresh(t, n)}}
}

// of draws so many of a row, in a drawn order.
func (s *script) of(l []int, n int) []int {
	l = slices.Clone(l)
	s.r.Shuffle(len(l), func(i, j int) { l[i], l[j] = l[j], l[i] })
	return l[:min(n, len(l))]
}

// some draws how many: often few.
func (s *script) some(most int) int {
	if s.r.IntN(3) > 0 {
		most = min(most, 9)
	}
	return s.r.IntN(most + 1)
}

// spoilt puts a number that may not be into a row, somewhere.
func (s *script) spoilt(b both, l []int) []int {
	i := anyNumbers[s.r.IntN(len(anyNumbers))]
	switch s.r.IntN(4) {
	case 0:
		i = s.r.IntN(len(b.free))
	case 1:
		i = len(b.free)
	case 2:
		if len(l) > 0 {
			i = l[s.r.IntN(len(l))]
		}
	}
	return slices.Insert(slices.Clone(l), s.r.IntN(len(l)+1), i)
}

// step does one call to one of the maps.
func (s *script) step(t *testing.T) {
	t.Helper()
	b := s.maps[s.r.IntN(len(s.maps))]
	n := len(b.free)
	switch s.r.IntN(12) {
	case 0, 1, 2:
		b.take(t, s.some(n))
	case 3:
		b.take(t, s.r.IntN(3*n)-n)
	case 4, 5:
		b.give(t, s.of(b.takenOnes(), s.some(n))...)
	case 6, 7:
		b.keep(t, s.of(b.freeOnes(), s.some(n))...)
	case 8:
		b.give(t, s.spoilt(b, s.of(b.takenOnes(), s.some(n)))...)
	case 9:
		b.keep(t, s.spoilt(b, s.of(b.freeOnes(), s.some(n)))...)
	case 10:
		s.put(both{b.m.Copy(), slices.Clone(b.free)})
	case 11:
		m, e := Of(n, b.m.Homes())
		if e != api.OK {
			t.Fatalf("Of(%d, Homes()) = %d", n, e)
		}
		s.put(both{m, slices.Clone(b.free)})
	}
}

// put takes one map more, in the place of another one, if there are many.
func (s *script) put(b both) {
	if len(s.maps) < 4 {
		s.maps = append(s.maps, b)
	} else {
		s.maps[s.r.IntN(4)] = b
	}
}

// P22.5: drawn scripts over several maps, against the plain account.
func TestDrawnScripts(t *testing.T) {
	for seed := range 60 {
		s := drawnScript(t, drawer(100+uint64(seed)))
		for i := range 150 {
			s.step(t)
			for _, b := range s.maps {
				if len(b.free) < 1000 || i%15 == 0 {
					b.alike(t, "a drawn call")
				}
			}
			if i%15 == 0 {
				for _, b := range s.maps {
					b.alikeHomes(t, "a drawn call")
				}
			}
		}
	}
}

// P22.5: Free, and how many were taken and not given, are Len; what Take tells was free, and is not then; all free sectors with lesser numbers are told.
func TestCounted(t *testing.T) {
	for seed := range 40 {
		r := drawer(300 + uint64(seed))
		n := 256 + r.IntN(9000)
		m, _ := New(n)
		taken := map[int]bool{}
		for range 60 {
			was := m.Copy()
			if l, ok := m.Take(r.IntN(m.Free()/9 + 2)); ok {
				for i := range l {
					if !was.Has(l[i]) || m.Has(l[i]) || taken[l[i]] || i > 0 && l[i] <= l[i-1] {
						t.Fatalf("%d: Take told %d, which was taken, or is free, or is no greater than the one ahead", n, l[i])
					}
					taken[l[i]] = true
				}
				for i := 0; len(l) > 0 && i < l[len(l)-1]; i++ {
					if m.Has(i) {
						t.Fatalf("%d: Take told %d, but not %d, which is free", n, l[len(l)-1], i)
					}
				}
			}
			for i := range taken {
				if r.IntN(5) == 0 {
					if e := m.Give([]int{i}); e != api.OK {
						t.Fatalf("%d: Give(%d) = %d", n, i, e)
					}
					delete(taken, i)
				}
			}
			if m.Free()+len(taken) != n || m.Len() != n {
				t.Fatalf("%d: Free() = %d, and %d are taken, of %d", n, m.Free(), len(taken), m.Len())
			}
		}
	}
}

// P22.5: Give of what Take told leads back; so does Keep behind it.
func TestThereAndBack(t *testing.T) {
	r := drawer(5)
	for _, n := range sizes {
		share := 1 + r.IntN(6)
		b := pieces(t, n, func(i int) bool { return i*i%7 < share })
		was := b.m.Homes()
		for _, k := range []int{0, 1, 64, r.IntN(b.m.Free() + 1), b.m.Free()} {
			l := b.take(t, k)
			behind := b.m.Homes()
			r.Shuffle(len(l), func(i, j int) { l[i], l[j] = l[j], l[i] })
			b.give(t, l...)
			if !slices.Equal(b.m.Homes(), was) {
				t.Fatalf("%d: Take(%d) and Give lead to another map", n, k)
			}
			b.keep(t, l...)
			if !slices.Equal(b.m.Homes(), behind) {
				t.Fatalf("%d: Keep of what Take(%d) told leads to another map", n, k)
			}
			b.give(t, l...)
		}
		b.alikeHomes(t, "there and back")
	}
}

// P22.4, P22.5: drawn homes, with sums that go with them, are a map's just if no bit stands behind the last sector; Homes tells them again.
func TestDrawnHomes(t *testing.T) {
	r := drawer(7)
	for range 200 {
		n := sizes[r.IntN(len(sizes)-2)]
		free := make([]bool, Size(n)*4000)
		for i := range free {
			free[i] = r.IntN(3) == 0 && (i < n || r.IntN(2000) == 0)
		}
		isMap := !slices.Contains(free[n:], true)
		homes := homesOf(free)
		m, e := Of(n, homes)
		if !isMap {
			if m != nil || e != api.ErrForm {
				t.Fatalf("%d: Of = %v, %d, with a bit behind the last sector", n, m != nil, e)
			}
			continue
		}
		if e != api.OK || !slices.Equal(m.Homes(), homes) {
			t.Fatalf("%d: Of = %d, or its homes are others", n, e)
		}
		both{m, free[:n]}.alike(t, "Of of drawn homes")
	}
}

// R1: any texts as homes.
func TestAnyTexts(t *testing.T) {
	r := drawer(8)
	for range 3000 {
		n := []int{256, 4001, 8001}[r.IntN(3)]
		homes := make([]string, r.IntN(5))
		for i := range homes {
			b := make([]byte, []int{0, 1, 499, 500, 504, 511, 512, 512, 512, 513, 1024}[r.IntN(11)])
			for j := range b {
				b[j] = byte(r.Uint32())
			}
			homes[i] = string(b)
		}
		refused(t, "drawn texts", n, homes, api.ErrForm)
	}
	for _, n := range anyNumbers {
		if n != 131072 {
			refused(t, "any number", n, []string{"x"}, api.ErrArg)
		}
	}
}

// R3: no map, and one that no call made.
func TestNoMapAtAll(t *testing.T) {
	good := fresh(t, 256)
	homes := good.m.Homes()
	for name, m := range map[string]*Map{"nil": nil, "a zero one": {}, "a new one": new(Map)} {
		for _, i := range append([]int{0, 1, 255, 256}, anyNumbers...) {
			if m.Len() != 0 || m.Free() != 0 || m.Has(i) {
				t.Errorf("%s: Len() = %d, Free() = %d, Has(%d) = %t", name, m.Len(), m.Free(), i, m.Has(i))
			}
			if l, ok := m.Take(i); len(l) != 0 || ok {
				t.Errorf("%s: Take(%d) = %v, %t", name, i, l, ok)
			}
			for _, l := range [][]int{nil, {}, {i}, {i, i}} {
				if e := m.Give(l); e != api.ErrNil {
					t.Errorf("%s: Give(%v) = %d", name, l, e)
				}
				if e := m.Keep(l); e != api.ErrNil {
					t.Errorf("%s: Keep(%v) = %d", name, l, e)
				}
			}
		}
		if l := m.Homes(); len(l) != 0 {
			t.Errorf("%s: Homes() = %d of them", name, len(l))
		}
		if c := m.Copy(); c != nil {
			t.Errorf("%s: Copy() is one", name)
		}
	}
	if !slices.Equal(good.m.Homes(), homes) {
		t.Error("another map is another one now")
	}
}

// R2: a map that is none answers ErrNil ahead of ErrArg; n is asked ahead of the homes.
func TestOrderOfErrors(t *testing.T) {
	var m *Map
	for _, l := range [][]int{{-1}, {3, 3}, {1 << 40}} {
		if m.Give(l) != api.ErrNil || m.Keep(l) != api.ErrNil {
			t.Errorf("Give(%v) = %d, Keep = %d", l, m.Give(l), m.Keep(l))
		}
	}
	refused(t, "both", 255, []string{"x"}, api.ErrArg)
	refused(t, "the homes alone", 256, []string{"x"}, api.ErrForm)
}

// R6: the same calls to maps of their own, side by side, are answered the same.
func TestSameCallsSameAnswers(t *testing.T) {
	told := make([][]string, 6)
	var all sync.WaitGroup
	for i := range told {
		all.Add(1)
		go func() {
			defer all.Done()
			s := drawnScript(t, drawer(9))
			for range 120 {
				s.step(t)
			}
			for _, b := range s.maps {
				told[i] = append(told[i], b.m.Homes()...)
			}
		}()
	}
	all.Wait()
	for i := range told {
		if !slices.Equal(told[i], told[0]) {
			t.Errorf("the script %d leads to other maps", i)
		}
	}
}

// R6: one map asked side by side answers all alike.
func TestAskedSideBySide(t *testing.T) {
	b := pieces(t, 4001, func(i int) bool { return i%3 == 0 })
	want := homesOf(b.free)
	var all sync.WaitGroup
	for range 6 {
		all.Add(1)
		go func() {
			defer all.Done()
			if b.m.Free() != 1334 || !b.m.Has(3) || b.m.Has(4) || !slices.Equal(b.m.Homes(), want) || b.m.Copy().Free() != 1334 {
				t.Error("another answer")
			}
		}()
	}
	all.Wait()
}
