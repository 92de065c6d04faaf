package queue

import (
	"math"
	"slices"
	"testing"

	"bedrock/api"
)

// news tells whether New answers of the list what the document says, and leaves the list as it was.
func news(t *testing.T, l []api.Tick) {
	t.Helper()
	before := slices.Clone(l)
	q, e := New(l)
	a, want := counted(before)
	if !slices.Equal(l, before) {
		t.Fatalf("New made %v of the list %v", l, before)
	}
	if e != want || (q == nil) != (want != api.OK) {
		t.Fatalf("New(%v) = %v, %d, want the error %d", l, q, e, want)
	}
	if want == api.OK {
		both{q, a}.alike(t, "New")
		both{q, a}.dues(t, []int{-1, 0, 1, 2, 3, 9, 4094, 4095, 4096})
	}
}

// refuses tells whether New answers that error of the list.
func refuses(t *testing.T, what string, l []api.Tick, want api.Errno) {
	t.Helper()
	if q, e := New(l); q != nil || e != want {
		t.Fatalf("New of %s = %v, %d, want %d", what, q, e, want)
	}
	news(t, l)
}

// sound are so many ticks that may be, no two of one index, from the index 10 on.
func sound(n int) []api.Tick {
	var l []api.Tick
	for i := range n {
		l = append(l, tick(10+i, int64(1+i*7%5)))
	}
	return l
}

// with are the ticks with one more, so far from the beginning.
func with(l []api.Tick, i int, x api.Tick) []api.Tick { return slices.Insert(slices.Clone(l), i, x) }

// P16.1: lists of no tick, of one, of several and of all.
func TestNewOfAsMany(t *testing.T) {
	news(t, nil)
	news(t, []api.Tick{})
	news(t, make([]api.Tick, 0, 9))
	for _, at := range []int{0, 1, 15, 16, 255, 256, 2048, 4094, 4095} {
		for _, due := range []int64{1, 2, 1 << 32, 1<<41 - 1, 1 << 41} {
			news(t, []api.Tick{tick(at, due)})
			b := made(t, tick(at, due))
			b.dues(t, []int{at - 1, at, at + 1})
		}
	}
	for n := range 40 {
		news(t, sound(n))
		made(t, sound(n)...)
	}
	for _, n := range []int{255, 256, 257, 1000, 4085} {
		news(t, sound(n))
	}
	r := drawer(1)
	for _, due := range []func(at int) int64{
		func(at int) int64 { return 7 },
		func(at int) int64 { return int64(1 + at) },
		func(at int) int64 { return int64(4096 - at) },
		func(at int) int64 { return 1 + r.Int64N(1<<41) },
		func(at int) int64 { return 1 + r.Int64N(9) },
	} {
		all := everywhere(due)
		news(t, all)
		news(t, all[:4095])
		news(t, all[1:])
		news(t, shuffled(r, all))
		b := made(t, shuffled(r, all)...)
		for at := range all {
			if got, ok := b.q.Due(at); !ok || got != all[at].Due {
				t.Fatalf("Due(%d) = %d, %t, want %d", at, got, ok, all[at].Due)
			}
		}
	}
}

// P16.1: a list that is too long is ErrLong, whatever stands in it.
func TestNewTooLong(t *testing.T) {
	all := everywhere(func(at int) int64 { return 3 })
	for _, x := range append(wrong(), tick(0, 1), tick(9, 3), tick(4095, 1<<41)) {
		for _, i := range []int{0, 1, 2048, 4095, 4096} {
			refuses(t, "4097 ticks", with(all, i, x), api.ErrLong)
		}
	}
	for _, n := range []int{4097, 4098, 5000, 8192, 1 << 16, 1<<16 + 1, 1 << 20} {
		refuses(t, "many ticks that may not be", make([]api.Tick, n), api.ErrLong)
		refuses(t, "many ticks of one index", slices.Repeat([]api.Tick{tick(1, 1)}, n), api.ErrLong)
	}
	refuses(t, "4096 ticks that may not be", make([]api.Tick, 4096), api.ErrArg)
	refuses(t, "4096 ticks of one index", slices.Repeat([]api.Tick{tick(1, 1)}, 4096), api.ErrThere)
}

// P16.1: a tick that may not be, at the beginning, in the middle and at the end.
func TestNewWrong(t *testing.T) {
	for _, x := range wrong() {
		for n := range 6 {
			for i := range n + 1 {
				refuses(t, "a tick that may not be", with(sound(n), i, x), api.ErrArg)
			}
		}
		for _, i := range []int{0, 2000, 4085} {
			refuses(t, "a tick that may not be", with(sound(4085), i, x), api.ErrArg)
		}
		refuses(t, "a tick that may not be twice", []api.Tick{x, x}, api.ErrArg)
	}
	for _, i := range []int{0, 1, 2048, 4094, 4095} {
		for _, x := range []api.Tick{tick(i, 0), tick(i, 1<<41+1), tick(-1, 1), tick(4096, 1)} {
			l := everywhere(func(at int) int64 { return 1 << 41 })
			l[i] = x
			refuses(t, "4096 ticks, of which one may not be", l, api.ErrArg)
		}
	}
}

// P16.1: an index that stands twice, at the beginning, in the middle and at the end, side by side or far apart, due earlier, at the same time or later.
func TestNewTwice(t *testing.T) {
	for n := 1; n < 7; n++ {
		l := sound(n)
		for _, x := range l {
			for _, due := range []int64{1, x.Due, 1 << 41} {
				for i := range n + 1 {
					refuses(t, "an index twice", with(l, i, tick(x.At, due)), api.ErrThere)
				}
			}
		}
	}
	for _, at := range []int{0, 9, 2048, 4094, 4095} {
		for _, i := range []int{0, 1, 2047, 4094, 4095} {
			l := everywhere(func(at int) int64 { return 5 })
			if i != at {
				l[i].At = at
				refuses(t, "4096 ticks with an index twice", l, api.ErrThere)
			}
		}
	}
}

// P16.1: of a tick that may not be and an index that stands twice, the one that stands ahead tells the error.
func TestNewFirstError(t *testing.T) {
	for _, x := range wrong() {
		for n := 1; n < 5; n++ {
			l := sound(n)
			for i := range n {
				for k := i + 1; k <= n; k++ {
					twice := with(l, k, tick(l[i].At, 2))
					for at := range n + 2 {
						want := api.ErrThere
						if at <= k {
							want = api.ErrArg
						}
						refuses(t, "both", with(twice, at, x), want)
					}
				}
			}
		}
	}
	for _, x := range []api.Tick{tick(10, 0), tick(10, 1<<41+1), tick(10, math.MinInt64)} {
		refuses(t, "an index twice, the second time due at no time", []api.Tick{tick(10, 1), x}, api.ErrArg)
		refuses(t, "an index twice, the first time due at no time", []api.Tick{x, tick(10, 1)}, api.ErrArg)
		refuses(t, "an index three times", []api.Tick{tick(10, 1), tick(10, 1), x}, api.ErrThere)
	}
}

// P16.1: all short lists of some ticks.
func TestNewShortLists(t *testing.T) {
	of := []api.Tick{tick(-1, 1), tick(0, 0), tick(0, 1), tick(0, 2), tick(1, 1), tick(4095, 1<<41), tick(4095, 1<<41+1), tick(4096, 1<<41)}
	l := make([]api.Tick, 0, 5)
	var longer func()
	longer = func() {
		news(t, l)
		if len(l) == cap(l) {
			return
		}
		for _, x := range of {
			l = append(l, x)
			longer()
			l = l[:len(l)-1]
		}
	}
	longer()
}

// P16.1: lists at random, most of which are none of a queue.
func TestNewAtRandom(t *testing.T) {
	r := drawer(2)
	bad := wrong()
	for range 20000 {
		var l []api.Tick
		wide, late := 1+r.IntN(1+r.IntN(400)), int64(1)<<r.IntN(42)
		for range r.IntN(20) {
			l = append(l, tick(r.IntN(wide), 1+r.Int64N(late)))
		}
		if r.IntN(3) == 0 {
			l = with(l, r.IntN(len(l)+1), bad[r.IntN(len(bad))])
		}
		news(t, l)
	}
}

// R2, R4: a list that is refused leaves nothing behind: the next one is taken as it is.
func TestNewBehindError(t *testing.T) {
	for range 3 {
		refuses(t, "an index twice", []api.Tick{tick(7, 1), tick(8, 1), tick(7, 2)}, api.ErrThere)
		refuses(t, "a tick that may not be", []api.Tick{tick(7, 1), tick(8, 1), tick(9, 0)}, api.ErrArg)
		made(t, tick(7, 5), tick(8, 4), tick(9, 3))
	}
}
