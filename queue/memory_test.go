package queue

import (
	"math"
	"slices"
	"testing"

	"bedrock/api"
)

// spoil writes over the list and the room behind it.
func spoil(l []api.Tick, by api.Tick) {
	l = l[:cap(l)]
	for i := range l {
		l[i] = by
	}
}

// roomy is the list with room behind it, in which there are other ticks.
func roomy(l []api.Tick) []api.Tick {
	wide := append(slices.Clone(l), slices.Repeat([]api.Tick{tick(77, 77)}, 20)...)
	return wide[:len(l)]
}

// spoils are what lists are written over by.
var spoils = []api.Tick{{}, {At: 1, Due: 1}, {At: 4095, Due: 1}, {At: -1, Due: -1}, {At: math.MaxInt, Due: math.MaxInt64}}

// lists are some that queues are made of.
func lists() [][]api.Tick {
	return [][]api.Tick{{}, {tick(9, 9)}, {tick(9, 9), tick(3, 3)}, mixed(), everywhere(func(at int) int64 { return int64(1 + at*37%101) })}
}

// R4: what is handed to New, and the room behind it, is not changed, neither by New nor by what is done behind it.
func TestHandedStays(t *testing.T) {
	for _, l := range lists() {
		handed := roomy(l)
		before := slices.Clone(handed[:cap(handed)])
		stays := func(what string) {
			t.Helper()
			if !slices.Equal(handed[:cap(handed)], before) {
				t.Fatalf("%s changed what was handed to New: %v", what, handed[:cap(handed)])
			}
		}
		b := made(t, handed...)
		stays("New")
		for i, at := range []int{8, 9, 10, 4095, 1} {
			b.put(t, tick(at, int64(2-i%2)))
			stays("Put")
			b.drop(t, at+i%2)
			stays("Drop")
			b.take(t, 1<<41)
			stays("Take")
		}
		spoil(b.q.List(), tick(5, 5))
		stays("List, written over,")
		taken(t, b.q)
		stays("Take of all")
	}
}

// R4: what is handed to New is not kept: a change of it changes nothing in the queue.
func TestHandedNotKept(t *testing.T) {
	for _, l := range lists() {
		for _, by := range spoils {
			handed := roomy(l)
			q, e := New(handed)
			a, _ := counted(l)
			if e != api.OK {
				t.Fatalf("New(%v) = %d", l, e)
			}
			spoil(handed, by)
			b := both{q, a}
			b.alike(t, "a change of what was handed to New")
			b.dues(t, []int{0, 1, 3, 9, 4095})
			b.put(t, tick(1, 1))
			b.put(t, tick(8, 1<<41))
			spoil(handed, by)
			b.alike(t, "a change of what was handed to New")
			if got := taken(t, q); !slices.Equal(got, lined(*a)) {
				t.Fatalf("of %v there came %v", *a, got)
			}
		}
	}
}

// R4: a change of List's answer changes neither the queue nor another answer.
func TestListNewMemory(t *testing.T) {
	for _, l := range lists() {
		for _, by := range spoils {
			b := made(t, l...)
			first, second := b.q.List(), b.q.List()
			spoil(first, by)
			if !slices.Equal(second, *b.a) {
				t.Fatalf("a change of one answer made another one %v", second)
			}
			b.alike(t, "a change of List's answer")
			b.dues(t, []int{0, 1, 3, 9, 4095})
			third := b.q.List()
			want := slices.Clone(third)
			b.put(t, tick(2, 1))
			spoil(b.q.List(), by)
			b.drop(t, 9)
			b.take(t, 1<<41)
			if !slices.Equal(third, want) {
				t.Fatalf("what was done made the answer %v of %v", third, want)
			}
			spoil(third, by)
			b.alike(t, "a change of an older answer")
		}
	}
}

// R4: two queues do not touch each other, be they made of one list, one of the other's, or one behind the other.
func TestTwoQueues(t *testing.T) {
	r := drawer(12)
	for _, l := range lists()[:4] {
		handed := roomy(l)
		queues := []both{made(t, handed...), made(t, handed...), made(t), made(t)}
		list := queues[0].q.List()
		queues = append(queues, made(t, list...), made(t, list...))
		for range 400 {
			queues[r.IntN(len(queues))].one(t, r, []int{0, 2, 3, 5, 7, 9, 4095}, 15)
			for _, b := range queues {
				b.alike(t, "a call of another queue")
				b.dues(t, []int{0, 3, 9})
			}
		}
	}
}

// R6: what is answered hangs on what was done to the queue alone: asked twice, and with other queues between, it is the same.
func TestAskedAgain(t *testing.T) {
	b := made(t, mixed()...)
	want, _ := b.q.First()
	for range 50 {
		other := made(t, tick(2, 1), tick(5, 1))
		other.take(t, 1)
		if x, ok := b.q.First(); !ok || x != want {
			t.Fatalf("First() = %v, %t, want %v", x, ok, want)
		}
		b.dues(t, []int{2, 5, 7, 8})
		if b.take(t, 2) {
			t.Fatal("Take(2) took one")
		}
	}
}
