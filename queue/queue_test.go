package queue

import (
	"math"
	"math/rand/v2"
	"slices"
	"testing"

	"bedrock/api"
)

// noIndexes are numbers that are no index: some of them are one in fewer bits.
var noIndexes = []int{-1, -2, -4095, -4096, -4097, -65536, math.MinInt, math.MinInt + 1, math.MinInt + 9, 4096, 4097, 8191, 8192, 1<<16 - 1, 1 << 16, 1<<16 + 9, 1 << 32, 1<<32 + 9, math.MaxInt - 1, math.MaxInt}

// notDue are times at which no tick may be due.
var notDue = []int64{0, -1, -2, -1 << 41, math.MinInt64, math.MinInt64 + 1, 1<<41 + 1, 1<<41 + 2, 1 << 42, math.MaxInt64 - 1, math.MaxInt64}

// nows are times of all sorts.
var nows = slices.Concat(notDue, []int64{1, 2, 3, 8, 9, 10, 1<<31 - 1, 1 << 31, 1 << 32, 1<<32 + 1, 1<<40 + 1, 1<<41 - 1, 1 << 41})

// tick is one of that index, due then.
func tick(at int, due int64) api.Tick { return api.Tick{At: at, Due: due} }

// wrong are ticks that may not be: by their index, by when they are due, or by both.
func wrong() []api.Tick {
	var l []api.Tick
	for _, at := range noIndexes {
		for _, due := range []int64{1, 9, 1 << 41} {
			l = append(l, tick(at, due))
		}
	}
	for _, due := range notDue {
		for _, at := range []int{0, 9, 4095} {
			l = append(l, tick(at, due))
		}
	}
	return append(l, tick(-1, 0), tick(4096, 1<<41+1), tick(math.MinInt, math.MinInt64), tick(math.MaxInt, math.MaxInt64))
}

func drawer(seed uint64) *rand.Rand { return rand.New(rand.NewPCG(seed, 16)) }

// account is a queue by the document's words: a plain list of its ticks, by rising indexes.
type account []api.Tick

func isWrong(t api.Tick) bool { return t.At < 0 || t.At > 4095 || t.Due < 1 || t.Due > 1<<41 }

// find tells where the tick of that index stands, or where it would stand, and whether there is one.
func (a account) find(at int) (int, bool) {
	for i, t := range a {
		if t.At >= at {
			return i, t.At == at
		}
	}
	return len(a), false
}

// first tells where the first tick stands: -1, if there is none.
func (a account) first() int {
	best := -1
	for i, t := range a {
		if best < 0 || t.Due < a[best].Due {
			best = i
		}
	}
	return best
}

// counted is the account of these ticks, or the error that New answers.
func counted(l []api.Tick) (*account, api.Errno) {
	if len(l) > 4096 {
		return nil, api.ErrLong
	}
	a, met := &account{}, map[int]bool{}
	for _, t := range l {
		switch {
		case isWrong(t):
			return nil, api.ErrArg
		case met[t.At]:
			return nil, api.ErrThere
		}
		met[t.At] = true
		*a = append(*a, t)
	}
	slices.SortFunc(*a, func(x, y api.Tick) int { return x.At - y.At })
	return a, api.OK
}

func (a *account) Put(t api.Tick) (bool, api.Errno) {
	if isWrong(t) {
		return false, api.ErrArg
	}
	i, there := a.find(t.At)
	switch {
	case !there:
		*a = slices.Insert(*a, i, t)
	case (*a)[i].Due > t.Due:
		(*a)[i] = t
	default:
		return false, api.OK
	}
	return true, api.OK
}

func (a *account) Drop(at int) bool {
	i, there := a.find(at)
	if there {
		*a = slices.Delete(*a, i, i+1)
	}
	return there
}

func (a *account) Due(at int) (int64, bool) {
	if i, there := a.find(at); there {
		return (*a)[i].Due, true
	}
	return 0, false
}

func (a *account) First() (api.Tick, bool) {
	if i := a.first(); i >= 0 {
		return (*a)[i], true
	}
	return api.Tick{}, false
}

func (a *account) Take(now int64) (api.Tick, bool) {
	t, ok := a.First()
	if !ok || now < t.Due {
		return api.Tick{}, false
	}
	a.Drop(t.At)
	return t, true
}

// both is a queue beside its account.
type both struct {
	q *Queue
	a *account
}

// made is the queue of these ticks, which may be, beside its account.
func made(t *testing.T, l ...api.Tick) both {
	t.Helper()
	q, e := New(l)
	a, want := counted(l)
	if q == nil || e != api.OK || want != api.OK {
		t.Fatalf("New(%v) = %v, %d, want a queue, %d", l, q, e, want)
	}
	b := both{q, a}
	b.alike(t, "New")
	return b
}

// alike tells whether the queue shows just what its account does.
func (b both) alike(t *testing.T, what string) {
	t.Helper()
	if got := b.q.List(); !slices.Equal(got, *b.a) {
		t.Fatalf("behind %s: List() = %v, want %v", what, got, *b.a)
	}
	if got := b.q.Len(); got != len(*b.a) {
		t.Fatalf("behind %s: Len() = %d of %v", what, got, *b.a)
	}
	got, ok := b.q.First()
	if want, there := b.a.First(); got != want || ok != there {
		t.Fatalf("behind %s: First() = %v, %t of %v", what, got, ok, *b.a)
	}
}

// dues tells whether the queue answers for each of these numbers when its tick is due.
func (b both) dues(t *testing.T, numbers []int) {
	t.Helper()
	for _, at := range numbers {
		due, ok := b.q.Due(at)
		if want, there := b.a.Due(at); due != want || ok != there {
			t.Fatalf("Due(%d) = %d, %t of %v", at, due, ok, *b.a)
		}
	}
	b.alike(t, "Due")
}

func (b both) put(t *testing.T, x api.Tick) {
	t.Helper()
	got, e := b.q.Put(x)
	if want, err := b.a.Put(x); got != want || e != err {
		t.Fatalf("Put(%v) = %t, %d, want %t, %d; then %v", x, got, e, want, err, *b.a)
	}
	b.alike(t, "Put")
}

func (b both) drop(t *testing.T, at int) {
	t.Helper()
	got := b.q.Drop(at)
	if want := b.a.Drop(at); got != want {
		t.Fatalf("Drop(%d) = %t, want %t; then %v", at, got, want, *b.a)
	}
	b.alike(t, "Drop")
}

func (b both) take(t *testing.T, now int64) bool {
	t.Helper()
	got, ok := b.q.Take(now)
	if want, there := b.a.Take(now); got != want || ok != there {
		t.Fatalf("Take(%d) = %v, %t, want %v, %t; then %v", now, got, ok, want, there, *b.a)
	}
	b.alike(t, "Take")
	return ok
}

// everywhere are 4096 ticks, each due when due tells.
func everywhere(due func(at int) int64) []api.Tick {
	l := make([]api.Tick, 4096)
	for at := range l {
		l[at] = tick(at, due(at))
	}
	return l
}

// orders goes over the list in each order.
func orders(l []api.Tick, do func([]api.Tick)) {
	var from func(i int)
	from = func(i int) {
		if i == len(l) {
			do(l)
			return
		}
		for k := i; k < len(l); k++ {
			l[i], l[k] = l[k], l[i]
			from(i + 1)
			l[i], l[k] = l[k], l[i]
		}
	}
	from(0)
}

// shuffled is the list in an order at random.
func shuffled(r *rand.Rand, l []api.Tick) []api.Tick {
	l = slices.Clone(l)
	r.Shuffle(len(l), func(i, k int) { l[i], l[k] = l[k], l[i] })
	return l
}

// R1, R3: of a queue that is nil, and of those that New did not make, whatever they are handed.
func TestUnmade(t *testing.T) {
	var none Queue
	for name, q := range map[string]*Queue{"nil": nil, "&Queue{}": {}, "new(Queue)": new(Queue), "var": &none} {
		nothing := func(what string) {
			t.Helper()
			if l := q.List(); len(l) != 0 || q.Len() != 0 {
				t.Errorf("%s, behind %s: List() = %v, Len() = %d", name, what, l, q.Len())
			}
			if x, ok := q.First(); ok || x != (api.Tick{}) {
				t.Errorf("%s, behind %s: First() = %v, %t", name, what, x, ok)
			}
		}
		nothing("nothing")
		for _, x := range append(wrong(), tick(0, 1), tick(9, 9), tick(4095, 1<<41)) {
			if ok, e := q.Put(x); ok || e != api.ErrNil {
				t.Errorf("%s: Put(%v) = %t, %d", name, x, ok, e)
			}
			nothing("Put")
			if q.Drop(x.At) {
				t.Errorf("%s: Drop(%d) = true", name, x.At)
			}
			if due, ok := q.Due(x.At); ok || due != 0 {
				t.Errorf("%s: Due(%d) = %d, %t", name, x.At, due, ok)
			}
			if x, ok := q.Take(x.Due); ok || x != (api.Tick{}) {
				t.Errorf("%s: Take = %v, %t", name, x, ok)
			}
			nothing("Drop, Due and Take")
		}
		if q != nil && *q != (Queue{}) {
			t.Errorf("%s is another one: %v", name, *q)
		}
	}
}

// The chapter's examples.
func TestExamples(t *testing.T) {
	is := func(what string, x api.Tick, ok bool, want api.Tick, there bool) {
		t.Helper()
		if x != want || ok != there {
			t.Errorf("%s = %v, %t, want %v, %t", what, x, ok, want, there)
		}
	}
	q, e := New([]api.Tick{tick(5, 9), tick(7, 3), tick(2, 3)})
	if e != api.OK {
		t.Fatalf("New: %d", e)
	}
	x, ok := q.First()
	is("First()", x, ok, tick(2, 3), true)
	if l := q.List(); q.Len() != 3 || !slices.Equal(l, []api.Tick{tick(2, 3), tick(5, 9), tick(7, 3)}) {
		t.Errorf("Len() = %d, List() = %v", q.Len(), l)
	}
	for _, y := range []struct {
		due  int64
		want bool
	}{{10, false}, {9, false}, {1, true}} {
		if got, e := q.Put(tick(5, y.due)); got != y.want || e != api.OK {
			t.Errorf("Put(5, due %d) = %t, %d", y.due, got, e)
		}
	}
	x, ok = q.First()
	is("First()", x, ok, tick(5, 1), true)
	for i, want := range []api.Tick{{}, tick(5, 1), tick(2, 3), tick(7, 3), {}} {
		now := int64(3)
		if i == 0 {
			now = 0
		}
		x, ok = q.Take(now)
		is("Take", x, ok, want, want != api.Tick{})
	}
	for _, x := range []api.Tick{tick(1, 0), tick(4096, 1), tick(1, 1<<41+1)} {
		if ok, e := q.Put(x); ok || e != api.ErrArg {
			t.Errorf("Put(%v) = %t, %d", x, ok, e)
		}
	}
	if q, e := New([]api.Tick{tick(1, 1), tick(1, 2)}); q != nil || e != api.ErrThere {
		t.Errorf("New of an index twice = %v, %d", q, e)
	}
	if q, e := New(make([]api.Tick, 4097)); q != nil || e != api.ErrLong {
		t.Errorf("New of 4097 ticks = %v, %d", q, e)
	}
	q = nil
	if ok, e := q.Put(tick(1, 1)); ok || e != api.ErrNil {
		t.Errorf("Put of nil = %t, %d", ok, e)
	}
	x, ok = q.First()
	is("First() of nil", x, ok, api.Tick{}, false)
	if n := q.Len(); n != 0 {
		t.Errorf("Len() of nil = %d", n)
	}
}
