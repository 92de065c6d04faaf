package queue

import (
	"cmp"
	"math"
	"slices"
	"testing"

	"bedrock/api"
)

// P16.3: First of none, of one and of several, and of such as are due at the same time, in each order.
func TestFirst(t *testing.T) {
	b := made(t)
	if x, ok := b.q.First(); ok || x != (api.Tick{}) {
		t.Errorf("First() of none = %v, %t", x, ok)
	}
	for _, x := range []struct {
		want api.Tick
		l    []api.Tick
	}{
		{tick(0, 1<<41), []api.Tick{tick(0, 1<<41)}},
		{tick(4095, 1), []api.Tick{tick(4095, 1), tick(0, 2)}},
		{tick(3, 7), []api.Tick{tick(3, 7), tick(4, 7), tick(5, 7), tick(4095, 7), tick(2, 8)}},
		{tick(0, 7), []api.Tick{tick(3, 7), tick(0, 7), tick(1, 7), tick(4095, 7), tick(2, 7)}},
		{tick(9, 1<<32-1), []api.Tick{tick(9, 1<<32-1), tick(8, 1<<32), tick(7, 1<<32+1), tick(6, 1<<41)}},
		{tick(9, 1), []api.Tick{tick(9, 1), tick(8, 1<<32), tick(7, 1<<32+1), tick(6, 1<<33)}},
	} {
		orders(x.l, func(l []api.Tick) {
			b := made(t, l...)
			for range 2 {
				if got, ok := b.q.First(); !ok || got != x.want {
					t.Fatalf("First() of %v = %v, %t, want %v", l, got, ok, x.want)
				}
			}
			b.alike(t, "First")
		})
	}
}

// P16.3: Take ahead of, at and behind the time at which the first one is due, and at all sorts of times.
func TestTakeNow(t *testing.T) {
	for _, due := range []int64{1, 2, 9, 1<<31 - 1, 1 << 31, 1 << 32, 1<<40 + 1, 1<<41 - 1, 1 << 41} {
		for _, now := range append(nows, due-1, due, due+1) {
			b := made(t, tick(9, due), tick(8, 1<<41))
			want := tick(9, due)
			if due == 1<<41 {
				want.At = 8
			}
			got, ok := b.q.Take(now)
			if ok != (now >= due) || ok && got != want || !ok && got != (api.Tick{}) {
				t.Fatalf("Take(%d) of one that is due at %d = %v, %t", now, due, got, ok)
			}
			b.a.Take(now)
			b.alike(t, "Take")
			b.take(t, now)
			b.take(t, now)
			b.dues(t, []int{8, 9})
		}
	}
	for _, now := range nows {
		b := made(t)
		if x, ok := b.q.Take(now); ok || x != (api.Tick{}) {
			t.Errorf("Take(%d) of none = %v, %t", now, x, ok)
		}
		b.alike(t, "Take of none")
	}
}

// P16.3: what is not due stays; what is due is gone, and can be put again, also later.
func TestTakeStays(t *testing.T) {
	for now := range int64(22) {
		b := made(t, mixed()...)
		for b.take(t, now) {
		}
		for _, x := range mixed() {
			if due, ok := b.q.Due(x.At); ok != (x.Due > now) || ok && due != x.Due {
				t.Fatalf("behind Take(%d) Due(%d) = %d, %t", now, x.At, due, ok)
			}
			if ok, e := b.q.Put(tick(x.At, 1<<41)); ok != (x.Due <= now) || e != api.OK {
				t.Fatalf("behind Take(%d) Put(%d) = %t, %d", now, x.At, ok, e)
			}
			b.a.Put(tick(x.At, 1<<41))
		}
		b.alike(t, "Take and Put")
	}
}

// P16.3: List rises by index, whatever was done, and Len tells how many there are.
func TestList(t *testing.T) {
	r := drawer(7)
	for n := range 200 {
		l := shuffled(r, everywhere(func(at int) int64 { return 1 + r.Int64N(30) }))[:n]
		q := made(t, l...).q
		for range n / 3 {
			q.Take(math.MaxInt64)
			q.Drop(r.IntN(4096))
			q.Put(tick(r.IntN(4096), 1+r.Int64N(30)))
		}
		got := q.List()
		rises := slices.IsSortedFunc(got, func(a, b api.Tick) int {
			if a.At == b.At {
				return 1
			}
			return a.At - b.At
		})
		if !rises || q.Len() != len(got) {
			t.Fatalf("Len() = %d, List() = %v", q.Len(), got)
		}
	}
}

// taken takes the ticks one by one until none is left.
func taken(t *testing.T, q *Queue) []api.Tick {
	t.Helper()
	var l []api.Tick
	for len(l) <= 4096 {
		x, ok := q.Take(math.MaxInt64)
		if !ok {
			break
		}
		l = append(l, x)
	}
	if x, ok := q.First(); ok || q.Len() != 0 || len(q.List()) != 0 {
		t.Fatalf("behind %v there is %v, Len() = %d, List() = %v", l, x, q.Len(), q.List())
	}
	for _, x := range l {
		if due, ok := q.Due(x.At); ok || q.Drop(x.At) {
			t.Fatalf("of %v, which was taken, Due = %d, %t", x, due, ok)
		}
	}
	return l
}

// lined are the ticks that were put, each index once with its least Due, by Due, then by index.
func lined(puts []api.Tick) []api.Tick {
	least := map[int]int64{}
	for _, x := range puts {
		if due, ok := least[x.At]; !ok || x.Due < due {
			least[x.At] = x.Due
		}
	}
	var l []api.Tick
	for at, due := range least {
		l = append(l, tick(at, due))
	}
	slices.SortFunc(l, func(a, b api.Tick) int { return cmp.Or(cmp.Compare(a.Due, b.Due), a.At-b.At) })
	return l
}

// comes puts these into an empty queue one by one, and tells whether they come as they must, out of it and out of New of its List.
func comes(t *testing.T, puts []api.Tick) {
	t.Helper()
	q, _ := New(nil)
	for _, x := range puts {
		q.Put(x)
	}
	again, e := New(q.List())
	if e != api.OK || !slices.Equal(again.List(), q.List()) {
		t.Fatalf("New(%v) = %d", q.List(), e)
	}
	want := lined(puts)
	if got := taken(t, q); !slices.Equal(got, want) {
		t.Fatalf("put as %v, the ticks came as %v, want %v", puts, got, want)
	}
	if got := taken(t, again); !slices.Equal(got, want) {
		t.Fatalf("out of New of List the ticks came as %v, want %v", got, want)
	}
}

// P16.4: put in each order, some of them several times.
func TestComesInEachOrder(t *testing.T) {
	for _, l := range [][]api.Tick{
		nil,
		{tick(0, 1)},
		{tick(0, 1), tick(4095, 1), tick(9, 1), tick(8, 1), tick(7, 1), tick(1, 1)},
		{tick(0, 6), tick(1, 5), tick(2, 4), tick(3, 3), tick(4, 2), tick(5, 1)},
		{tick(3, 4), tick(3, 2), tick(3, 3), tick(2, 3), tick(4, 3), tick(4, 2), tick(5, 1)},
		{tick(3, 1<<41), tick(3, 1), tick(2, 1), tick(1, 1<<41), tick(1, 2), tick(1, 2), tick(0, 1<<41)},
	} {
		orders(l, func(l []api.Tick) { comes(t, l) })
	}
}

// P16.4: put at random, with few and with many indexes and times.
func TestComesAtRandom(t *testing.T) {
	r := drawer(8)
	for range 3000 {
		var l []api.Tick
		wide, late := 1+r.IntN(1+r.IntN(100)), 1+r.Int64N(1<<r.IntN(42))
		for range r.IntN(150) {
			l = append(l, tick(r.IntN(wide)*4095/max(wide-1, 1), 1+r.Int64N(late)))
		}
		comes(t, l)
		comes(t, shuffled(r, l))
	}
}

// P16.4: all indexes.
func TestComesAll(t *testing.T) {
	r := drawer(9)
	for _, due := range []func(at int) int64{
		func(at int) int64 { return 1 << 41 },
		func(at int) int64 { return int64(4096 - at) },
		func(at int) int64 { return int64(1 + at%16) },
		func(at int) int64 { return 1 + r.Int64N(1<<41) },
	} {
		all := everywhere(due)
		comes(t, all)
		comes(t, shuffled(r, all))
		comes(t, slices.Concat(shuffled(r, all), shuffled(r, everywhere(func(at int) int64 { return 1 + r.Int64N(9) }))))
		if got := taken(t, made(t, shuffled(r, all)...).q); !slices.Equal(got, lined(all)) {
			t.Fatalf("out of New of all indexes the ticks came as %v", got)
		}
	}
}

// P16.4: behind any calls New of List is the same queue: each call behind it is answered alike.
func TestNewOfList(t *testing.T) {
	r := drawer(10)
	for range 600 {
		indexes := r.Perm(4096)[:1+r.IntN(40)]
		b := made(t)
		for range r.IntN(200) {
			b.one(t, r, indexes, 12)
		}
		twin := made(t, b.q.List()...)
		for range 60 {
			call := r.Uint64()
			b.one(t, drawer(call), indexes, 12)
			twin.one(t, drawer(call), indexes, 12)
			if x, y := b.q.List(), twin.q.List(); !slices.Equal(x, y) {
				t.Fatalf("one has %v, New of its List %v", x, y)
			}
		}
		if x, y := taken(t, b.q), taken(t, twin.q); !slices.Equal(x, y) {
			t.Fatalf("out of one came %v, out of New of its List %v", x, y)
		}
	}
}

// P16.4: taken up to a time, put again and taken, as a world does turn by turn.
func TestTurns(t *testing.T) {
	r := drawer(11)
	for range 200 {
		b := made(t)
		for now := range int64(60) {
			for b.take(t, now) {
				if r.IntN(4) > 0 {
					b.put(t, tick(r.IntN(30), now+1+r.Int64N(5)))
				}
			}
			if x, ok := b.q.First(); ok && x.Due <= now {
				t.Fatalf("at %d there is still %v", now, x)
			}
			for range r.IntN(5) {
				b.put(t, tick(r.IntN(30), now+1+r.Int64N(5)))
			}
		}
	}
}
