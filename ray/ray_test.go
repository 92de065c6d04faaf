package ray

import (
	"cmp"
	"math"
	"slices"
	"testing"

	"bedrock/api"
)

// The world's last numbers, written out anew.
const (
	least = -1048576
	most  = 1048575
	top   = 63
)

func at(x, y, z int) api.Place { return api.Place{X: x, Y: y, Z: z} }

// may tells whether it is a place, by the document's words.
func may(p api.Place) bool {
	return least <= p.X && p.X <= most && least <= p.Z && p.Z <= most && 0 <= p.Y && p.Y <= top
}

// comes is one crossing: when it comes, in parts that are alike for all of a way; its axis' rank among such as come together; what it adds.
type comes struct {
	when, rank int
	step       api.Place
}

func size(n int) int { return max(n, -n) }

func sign(n int) int { return cmp.Compare(n, 0) }

// parts is a number that each of the direction's divides (but those that are 0).
func parts(d [3]int) int {
	n := 1
	for _, number := range d {
		if number != 0 {
			n *= size(number)
		}
	}
	return n
}

// account tells the first n crossings of a direction, by writing down n of each axis and putting all of them in order.
func account(d [3]int, n int) []comes {
	steps := [3]api.Place{at(sign(d[0]), 0, 0), at(0, sign(d[1]), 0), at(0, 0, sign(d[2]))}
	ranks := [3]int{0, 2, 1}
	var all []comes
	for axis, number := range d {
		for k := 1; k <= n && number != 0; k++ {
			all = append(all, comes{(2*k - 1) * (parts(d) / size(number)), ranks[axis], steps[axis]})
		}
	}
	slices.SortFunc(all, func(a, b comes) int {
		return cmp.Or(cmp.Compare(a.when, b.when), cmp.Compare(a.rank, b.rank))
	})
	return all[:n]
}

// want is the way's places by the account of its crossings.
func want(from api.Place, d [3]int, n int) []api.Place {
	var way []api.Place
	for _, c := range account(d, n) {
		from = at(from.X+c.step.X, from.Y+c.step.Y, from.Z+c.step.Z)
		if !may(from) {
			break
		}
		way = append(way, from)
	}
	return way
}

// way is what Way answers, which must be OK.
func way(t *testing.T, from api.Place, d [3]int, n int) []api.Place {
	t.Helper()
	got, e := Way(from, d, n)
	if e != api.OK {
		t.Fatalf("Way(%v, %v, %d): error %d", from, d, n, e)
	}
	return got
}

// goes tells what Way answered, where it is another thing.
func goes(t *testing.T, from api.Place, d [3]int, n int, want []api.Place) {
	t.Helper()
	if got := way(t, from, d, n); !slices.Equal(got, want) {
		t.Fatalf("Way(%v, %v, %d) = %v, want %v", from, d, n, got, want)
	}
}

// refuses tells what Way answered, where it is not that error and no places.
func refuses(t *testing.T, from api.Place, d [3]int, n int, want api.Errno) {
	t.Helper()
	if got, e := Way(from, d, n); e != want || len(got) != 0 {
		t.Errorf("Way(%v, %v, %d) = %v, error %d, want error %d", from, d, n, got, e, want)
	}
}

var lengths = []int{0, 1, 2, 3, 4, 5, 17, 255, 256}

// froms are each corner of the world, one step from each, the midst, and places at chunks' edges.
var froms = []api.Place{
	at(0, 20, 0), at(-1, 31, -1), at(15, 32, -16), at(300000, 1, -700000),
	at(least, 0, least), at(most, 0, least), at(least, 0, most), at(most, 0, most),
	at(least, top, least), at(most, top, least), at(least, top, most), at(most, top, most),
	at(least+1, 1, least+1), at(most-1, top-1, most-1), at(least+1, 62, most-1), at(most-1, 1, least+1),
}

// directions are those of the numbers, each along each axis.
func directions(numbers ...int) [][3]int {
	var all [][3]int
	for _, x := range numbers {
		for _, y := range numbers {
			for _, z := range numbers {
				if x != 0 || y != 0 || z != 0 {
					all = append(all, [3]int{x, y, z})
				}
			}
		}
	}
	return all
}

var (
	small = directions(-3, -2, -1, 0, 1, 2, 3)
	great = directions(-1000, -999, -500, -7, 0, 1, 333, 1000)
)

// flat are directions whose ways are long, since they go up and down but little.
var flat = [][3]int{
	{1000, 1, 1000}, {1000, -1, 999}, {-1000, 3, -1}, {1, 1, 1000}, {-1, -1, -1000}, {997, 100, 991}, {600, -60, -400}, {900, 100, 300}, {-15, 1, 5}, {0, 1, 999}, {999, -1, 0},
}

// P9.1: ErrPlace, if from is no place, also where the direction or the length is wrong as well.
func TestNoPlace(t *testing.T) {
	none := []api.Place{
		at(least-1, 20, 0), at(most+1, 20, 0), at(0, -1, 0), at(0, 64, 0), at(0, 20, least-1), at(0, 20, most+1),
		at(math.MinInt, 20, 0), at(math.MaxInt, 20, 0), at(0, math.MinInt, 0), at(0, math.MaxInt, 0), at(0, 20, math.MinInt), at(0, 20, math.MaxInt),
		at(1<<32, 20, 0), at(0, 1<<32, 0), at(0, 20, 1<<32), at(-1<<32, 20, 0), at(math.MinInt, math.MinInt, math.MinInt), at(math.MaxInt, math.MaxInt, math.MaxInt),
	}
	for _, from := range none {
		for _, d := range [][3]int{{1, 0, 0}, {-1, 0, 0}, {0, 1, 0}, {0, -1, 0}, {0, 0, 1}, {0, 0, -1}, {0, 0, 0}, {1001, 0, 0}, {0, math.MinInt, 0}} {
			for _, n := range []int{0, 1, 256, -1, 257, math.MinInt, math.MaxInt} {
				refuses(t, from, d, n, api.ErrPlace)
			}
		}
	}
}

// P9.1: ErrArg, if the direction is none: all 0, or a number too far from 0.
func TestNoDirection(t *testing.T) {
	for _, from := range froms {
		for _, n := range []int{0, 1, 256, -1, 257} {
			refuses(t, from, [3]int{}, n, api.ErrArg)
		}
	}
	wrong := []int{-1001, 1001, -1002, 1002, -2000, 2000, 1 << 32, -1 << 32, 1<<32 + 1, math.MinInt, math.MinInt + 1, math.MaxInt}
	for axis := range 3 {
		for _, number := range wrong {
			for _, other := range []int{0, 1, -1000} {
				d := [3]int{other, other, other}
				d[axis] = number
				for _, n := range []int{0, 1, 256, -1, 257} {
					refuses(t, at(0, 20, 0), d, n, api.ErrArg)
				}
			}
		}
	}
}

// P9.1: ErrArg, if n is not from 0 to 256; the numbers next to what is wrong are right.
func TestNoLength(t *testing.T) {
	for _, n := range []int{-1, -2, -256, 257, 258, 512, 1 << 32, -1 << 32, 1<<32 + 1, math.MinInt, math.MaxInt} {
		for _, d := range [][3]int{{1, 0, 0}, {0, -1000, 0}, {1, 2, 3}, {0, 0, 0}, {1001, 0, 0}} {
			refuses(t, at(0, 20, 0), d, n, api.ErrArg)
		}
	}
	for axis := range 3 {
		for _, number := range []int{-1000, 1000} {
			var d [3]int
			d[axis] = number
			if got := way(t, at(0, 20, 0), d, 20); len(got) != 20 {
				t.Errorf("a number of %d along axis %d: %d places", number, axis, len(got))
			}
		}
	}
}

// P9.1: the places are those of the account of crossings, in each length.
func TestPlaces(t *testing.T) {
	for _, from := range froms {
		for _, d := range slices.Concat(small, flat) {
			all := want(from, d, 256)
			for _, n := range lengths {
				goes(t, from, d, n, all[:min(n, len(all))])
			}
		}
	}
	for _, from := range []api.Place{at(0, 20, 0), at(-1048000, 62, 1048500)} {
		for _, d := range great {
			goes(t, from, d, 256, want(from, d, 256))
		}
	}
}

// P9.1: the account that the others are held against cuts its crossings off at n, which no length of a way hangs on.
func TestAccount(t *testing.T) {
	for _, d := range slices.Concat(small, flat) {
		all := account(d, 256)
		for _, n := range lengths {
			for i, c := range account(d, n) {
				if c != all[i] {
					t.Fatalf("%v: crossing %d of %d is %v, of 256 %v", d, i, n, c, all[i])
				}
			}
		}
	}
}

// P9.1: of crossings that come together, that along X is first, then that along Z, then that along Y.
func TestTogether(t *testing.T) {
	from := at(0, 20, 0)
	goes(t, from, [3]int{1, 1, 0}, 4, []api.Place{at(1, 20, 0), at(1, 21, 0), at(2, 21, 0), at(2, 22, 0)})
	goes(t, from, [3]int{-1, 0, 1}, 4, []api.Place{at(-1, 20, 0), at(-1, 20, 1), at(-2, 20, 1), at(-2, 20, 2)})
	goes(t, from, [3]int{0, 1, 1}, 4, []api.Place{at(0, 20, 1), at(0, 21, 1), at(0, 21, 2), at(0, 22, 2)})
	goes(t, from, [3]int{7, -7, -7}, 5, []api.Place{at(1, 20, 0), at(1, 20, -1), at(1, 19, -1), at(2, 19, -1), at(2, 19, -2)})
	goes(t, from, [3]int{1, 3, 0}, 6, []api.Place{at(0, 21, 0), at(1, 21, 0), at(1, 22, 0), at(1, 23, 0), at(1, 24, 0), at(2, 24, 0)})
	goes(t, from, [3]int{3, 0, 1}, 6, []api.Place{at(1, 20, 0), at(2, 20, 0), at(2, 20, 1), at(3, 20, 1), at(4, 20, 1), at(5, 20, 1)})
	goes(t, from, [3]int{1, 0, 2}, 6, []api.Place{at(0, 20, 1), at(1, 20, 1), at(1, 20, 2), at(1, 20, 3), at(2, 20, 3), at(2, 20, 4)})
}

// P9.1: a way along one axis ends at the last place of the world there, and tells it.
func TestLastPlace(t *testing.T) {
	ends := []struct {
		from, last api.Place
		d          [3]int
	}{
		{at(most-3, 20, 5), at(most, 20, 5), [3]int{1, 0, 0}},
		{at(least+3, 20, 5), at(least, 20, 5), [3]int{-9, 0, 0}},
		{at(5, top-3, 5), at(5, top, 5), [3]int{0, 1000, 0}},
		{at(5, 3, 5), at(5, 0, 5), [3]int{0, -1, 0}},
		{at(5, 20, most-3), at(5, 20, most), [3]int{0, 0, 2}},
		{at(5, 20, least+3), at(5, 20, least), [3]int{0, 0, -1000}},
	}
	for _, c := range ends {
		for _, n := range []int{3, 4, 256} {
			if got := way(t, c.from, c.d, n); len(got) != 3 || got[2] != c.last {
				t.Errorf("Way(%v, %v, %d) = %v", c.from, c.d, n, got)
			}
		}
		if got := way(t, c.from, c.d, 2); len(got) != 2 {
			t.Errorf("Way(%v, %v, 2) = %v", c.from, c.d, got)
		}
		goes(t, c.last, c.d, 256, nil)
	}
}

// P9.1: behind a crossing that leads out of the world there is nothing more, even where another one comes together with it and would not.
func TestLeaves(t *testing.T) {
	goes(t, at(most, 20, 0), [3]int{1, 0, 1}, 9, nil)
	goes(t, at(0, 20, most), [3]int{1, 0, 1}, 9, []api.Place{at(1, 20, most)})
	goes(t, at(least, 20, 0), [3]int{-1, 1, 0}, 9, nil)
	goes(t, at(0, top, 0), [3]int{-1, 1, 0}, 9, []api.Place{at(-1, top, 0)})
	goes(t, at(0, 20, least), [3]int{0, -1, -1}, 9, nil)
	goes(t, at(0, 0, 0), [3]int{0, -1, -1}, 9, []api.Place{at(0, 0, -1)})
	goes(t, at(0, 0, 0), [3]int{5, -5, 5}, 9, []api.Place{at(1, 0, 0), at(1, 0, 1)})
	goes(t, at(0, 20, most), [3]int{5, 5, 5}, 9, []api.Place{at(1, 20, most)})
	goes(t, at(most, top, 0), [3]int{1, 1, 3}, 9, []api.Place{at(most, top, 1)})
	goes(t, at(most, 20, 0), [3]int{1, 0, 3}, 9, []api.Place{at(most, 20, 1)})
	goes(t, at(0, 20, most-1), [3]int{1, 0, 3}, 9, []api.Place{at(0, 20, most), at(1, 20, most)})
}

// apart is what lies between two places, along X, Y and Z.
func apart(a, b api.Place) [3]int { return [3]int{b.X - a.X, b.Y - a.Y, b.Z - a.Z} }

// P9.2: each place is a side of the one ahead; no step goes against the direction, or along an axis whose number is 0.
func TestSideBySide(t *testing.T) {
	for _, d := range slices.Concat(small, great, flat) {
		from := at(1000, 31, -1000)
		ahead := from
		for _, p := range way(t, from, d, 256) {
			step := apart(ahead, p)
			if size(step[0])+size(step[1])+size(step[2]) != 1 {
				t.Fatalf("%v: %v is no side of %v", d, p, ahead)
			}
			for axis, number := range d {
				if step[axis] != 0 && step[axis] != sign(number) {
					t.Fatalf("%v: from %v to %v it goes against the direction", d, ahead, p)
				}
			}
			ahead = p
		}
	}
}

// touched tells whether there is a t from 0 on for which each number of gone is at most 1/2 away from t times the direction's.
func touched(d, gone [3]int) bool {
	// t is told in parts of 1 / (2 m), which makes all its bounds whole numbers.
	m := parts(d)
	from, to := 0, math.MaxInt
	for axis, number := range d {
		if number == 0 && gone[axis] != 0 {
			return false
		}
		if number != 0 {
			on := gone[axis] * sign(number)
			from = max(from, (2*on-1)*(m/size(number)))
			to = min(to, (2*on+1)*(m/size(number)))
		}
	}
	return from <= to
}

// P9.3: the way goes through, or touches, each place that it tells.
func TestStraight(t *testing.T) {
	if touched([3]int{1, 0, 0}, [3]int{1, 0, 1}) || touched([3]int{1, 0, 1}, [3]int{2, 0, 0}) || touched([3]int{1, 0, 0}, [3]int{-1, 0, 0}) {
		t.Fatal("the test takes for touched what is not")
	}
	for _, d := range slices.Concat(small, great, flat) {
		for _, from := range froms[:4] {
			for _, p := range way(t, from, d, 256) {
				if !touched(d, apart(from, p)) {
					t.Fatalf("Way(%v, %v) tells %v, which it does not touch", from, d, p)
				}
			}
		}
	}
}

// P9.4: a longer way begins with a shorter one in the same direction.
func TestLonger(t *testing.T) {
	for _, d := range [][3]int{{1, 0, 0}, {-1, 1, -1}, {1000, 1, 1000}, {-7, 2, 3}, {999, -100, 1}} {
		for _, from := range froms {
			long := way(t, from, d, 256)
			for n := range 257 {
				goes(t, from, d, n, long[:min(n, len(long))])
			}
		}
	}
}

// P9.4: a direction three times as long has the same way (and so has one of any other length).
func TestSteeper(t *testing.T) {
	for _, d := range slices.Concat(small, directions(-333, -332, -1, 0, 2, 331, 333)) {
		for _, from := range []api.Place{at(0, 20, 0), at(most-40, 40, least+40)} {
			goes(t, from, [3]int{3 * d[0], 3 * d[1], 3 * d[2]}, 256, way(t, from, d, 256))
		}
	}
	for _, d := range small {
		for _, times := range []int{2, 5, 100, 333} {
			goes(t, at(0, 20, 0), [3]int{times * d[0], times * d[1], times * d[2]}, 256, way(t, at(0, 20, 0), d, 256))
		}
	}
}

// P9.5: what is answered is new memory.
func TestNewMemory(t *testing.T) {
	for _, n := range []int{1, 3, 200, 256} {
		from, d := at(0, 20, 0), [3]int{300, 1, -100}
		first, second := way(t, from, d, n), way(t, from, d, n)
		for i := range first {
			first[i] = at(-9, -9, -9)
		}
		_ = append(first[:0], first[:cap(first)]...)
		for _, got := range [][]api.Place{second, way(t, from, d, n)} {
			if !slices.Equal(got, want(from, d, n)) {
				t.Errorf("a change of one way of %d changed another one: %v", n, got)
			}
		}
	}
}

// The chapter's examples.
func TestExamples(t *testing.T) {
	goes(t, at(0, 20, 0), [3]int{1, 0, 0}, 3, []api.Place{at(1, 20, 0), at(2, 20, 0), at(3, 20, 0)})
	goes(t, at(0, 20, 0), [3]int{1, 1, 1}, 3, []api.Place{at(1, 20, 0), at(1, 20, 1), at(1, 21, 1)})
	goes(t, at(0, 20, 0), [3]int{2, 0, -1}, 4, []api.Place{at(1, 20, 0), at(1, 20, -1), at(2, 20, -1), at(3, 20, -1)})
	goes(t, at(0, 62, 0), [3]int{0, 1, 0}, 9, []api.Place{at(0, 63, 0)})
	goes(t, at(0, 20, 0), [3]int{0, -5, 0}, 0, nil)
	refuses(t, at(0, 64, 0), [3]int{0, 0, 0}, 1, api.ErrPlace)
	refuses(t, at(0, 0, 0), [3]int{0, 0, 0}, 1, api.ErrArg)
	refuses(t, at(0, 0, 0), [3]int{1001, 0, 0}, 1, api.ErrArg)
	refuses(t, at(0, 0, 0), [3]int{1, 0, 0}, 257, api.ErrArg)
}
