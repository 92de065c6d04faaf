package queue

import (
	"math"
	"math/rand/v2"
	"slices"
	"testing"

	"bedrock/api"
)

// mixed are ticks that are due at several times, some of them at the same one.
func mixed() []api.Tick {
	return []api.Tick{tick(5, 9), tick(7, 3), tick(2, 3), tick(0, 12), tick(4095, 20), tick(11, 3), tick(6, 1<<41)}
}

// P16.2: a tick that may not be is not put, whatever there is.
func TestPutWrong(t *testing.T) {
	for _, l := range [][]api.Tick{nil, {tick(9, 9)}, mixed(), everywhere(func(at int) int64 { return 1 << 41 })} {
		b := made(t, l...)
		for _, x := range wrong() {
			if ok, e := b.q.Put(x); ok || e != api.ErrArg {
				t.Fatalf("Put(%v) = %t, %d", x, ok, e)
			}
			b.alike(t, "Put of a tick that may not be")
		}
	}
}

// P16.2: ticks of new indexes, ahead of all, between others and behind all.
func TestPutNew(t *testing.T) {
	for _, at := range []int{0, 1, 3, 8, 10, 4094, 4095} {
		for _, due := range []int64{1, 2, 3, 4, 9, 10, 1 << 32, 1<<41 - 1, 1 << 41} {
			b := made(t)
			b.put(t, tick(at, due))
			b.dues(t, []int{at, at - 1, at + 1})
			b = made(t, mixed()...)
			b.put(t, tick(at, due))
			b.dues(t, []int{0, 2, 5, 6, 7, 11, 4095, at, at - 1, at + 1})
		}
	}
}

// P16.2: ticks of indexes that are there, earlier, at the same time and later.
func TestPutThere(t *testing.T) {
	for _, x := range mixed() {
		for _, due := range []int64{1, 2, 3, 4, 8, 9, 10, 11, 12, 13, 19, 20, 21, 1 << 32, 1<<41 - 1, 1 << 41} {
			b := made(t, mixed()...)
			before := b.q.List()
			ok, e := b.q.Put(tick(x.At, due))
			if ok != (due < x.Due) || e != api.OK {
				t.Fatalf("Put(%d, due %d) over %v = %t, %d", x.At, due, x, ok, e)
			}
			if !ok && !slices.Equal(b.q.List(), before) {
				t.Fatalf("Put(%d, due %d) changed %v to %v", x.At, due, before, b.q.List())
			}
			b.a.Put(tick(x.At, due))
			b.alike(t, "Put of an index that is there")
			b.put(t, tick(x.At, due))
			b.put(t, tick(x.At, due+1))
			b.put(t, tick(x.At, due-1))
			b.dues(t, []int{0, 2, 5, 6, 7, 11, 4095})
		}
	}
}

// P16.2: Put beyond 4096 ticks cannot be: all indexes are there by then.
func TestPutAll(t *testing.T) {
	r := drawer(3)
	q, _ := New(nil)
	all := everywhere(func(at int) int64 { return 5 + r.Int64N(50) })
	for i, x := range shuffled(r, all) {
		if ok, e := q.Put(x); !ok || e != api.OK || q.Len() != i+1 {
			t.Fatalf("Put(%v) = %t, %d, then Len() = %d", x, ok, e, q.Len())
		}
	}
	b := both{q, (*account)(&all)}
	b.alike(t, "4096 Puts")
	for _, at := range []int{0, 1, 2047, 2048, 4094, 4095} {
		b.put(t, tick(at, all[at].Due+1))
		b.put(t, tick(at, all[at].Due))
		b.put(t, tick(at, all[at].Due-1))
		b.put(t, tick(at, 1))
		b.drop(t, at)
		b.put(t, tick(at, 9))
	}
	b.put(t, tick(4096, 1))
	b.put(t, tick(-1, 1))
}

// P16.2: Drop and Due of indexes that are there, are not there, and are none.
func TestDropAndDue(t *testing.T) {
	numbers := slices.Concat(noIndexes, []int{0, 1, 2, 5, 6, 7, 9, 11, 256, 4094, 4095})
	for _, l := range [][]api.Tick{nil, {tick(9, 9)}, mixed(), everywhere(func(at int) int64 { return int64(1 + at%7) })} {
		made(t, l...).dues(t, numbers)
		for _, at := range numbers {
			b := made(t, l...)
			there := slices.ContainsFunc(l, func(x api.Tick) bool { return x.At == at })
			if got := b.q.Drop(at); got != there {
				t.Fatalf("Drop(%d) = %t, want %t of %v", at, got, there, l)
			}
			b.a.Drop(at)
			b.alike(t, "Drop")
			b.drop(t, at)
			b.dues(t, numbers)
			b.put(t, tick(at, 1<<41))
			b.dues(t, numbers)
			b.drop(t, at)
			b.dues(t, numbers)
		}
	}
}

// P16.2: dropped one by one in each order, and put again.
func TestDropInEachOrder(t *testing.T) {
	l := mixed()[:6]
	orders(slices.Clone(l), func(by []api.Tick) {
		b := made(t, l...)
		for _, x := range by {
			b.drop(t, x.At)
		}
		for _, x := range by {
			b.put(t, x)
		}
		b.dues(t, []int{0, 2, 5, 7, 11, 4095})
	})
}

// one does one call at random, of these indexes (and one more that may be none) and of these times.
func (b both) one(t *testing.T, r *rand.Rand, indexes []int, late int64) {
	t.Helper()
	at, due := indexes[r.IntN(len(indexes))], r.Int64N(late+2)
	if r.IntN(12) == 0 {
		at = noIndexes[r.IntN(len(noIndexes))]
	}
	if r.IntN(12) == 0 {
		due = nows[r.IntN(len(nows))]
	}
	switch r.IntN(8) {
	case 0:
		b.drop(t, at)
	case 1:
		b.dues(t, []int{at})
	case 2:
		b.take(t, due/4)
	case 3:
		b.take(t, due)
	default:
		b.put(t, tick(at, due))
	}
}

// P16.2, P16.3: long runs of calls at random, of few indexes and few times.
func TestLongRuns(t *testing.T) {
	r := drawer(4)
	for range 400 {
		indexes := []int{0, 4095}[:1+r.IntN(2)]
		for range r.IntN(1 + r.IntN(60)) {
			indexes = append(indexes, r.IntN(4096))
		}
		late := int64(1 + r.IntN(1+r.IntN(60)))
		b := made(t)
		for range 1500 {
			b.one(t, r, indexes, late)
		}
		b.dues(t, indexes)
	}
}

// P16.2, P16.3: runs in which queues of many ticks, due at few or at many times, become longer and shorter.
func TestLongQueues(t *testing.T) {
	r := drawer(5)
	for _, n := range []int{100, 1000, 4096} {
		for _, late := range []int64{1, 7, 1000, 1<<41 - 1} {
			b := made(t, shuffled(r, everywhere(func(at int) int64 { return 1 + r.Int64N(late) }))[:n]...)
			indexes := r.Perm(4096)[:n]
			for range 300 {
				b.one(t, r, indexes, late)
			}
			for range min(n, 300) {
				b.drop(t, (*b.a)[r.IntN(len(*b.a))].At)
				b.take(t, late)
				b.put(t, tick(indexes[r.IntN(n)], 1+r.Int64N(late)))
				if len(*b.a) == 0 {
					break
				}
			}
			b.dues(t, indexes)
		}
	}
}

// P16.2: whatever is handed, Put is refused for what may not be, and all else is as it was.
func TestAnyNumbers(t *testing.T) {
	r := drawer(6)
	b := made(t, mixed()...)
	for range 20000 {
		at, due := int(r.Uint64()), int64(r.Uint64())
		if r.IntN(2) == 0 {
			at >>= r.IntN(64)
		}
		if r.IntN(2) == 0 {
			due >>= r.IntN(64)
		}
		b.put(t, tick(at, due))
		b.dues(t, []int{at})
		if r.IntN(2) == 0 {
			b.drop(t, at)
		}
		if r.IntN(9) == 0 {
			b.take(t, due)
		}
		for len(*b.a) > 40 {
			b.take(t, math.MaxInt64)
		}
	}
}
