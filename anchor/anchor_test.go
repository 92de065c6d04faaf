package anchor

import (
	"math"
	"math/big"
	"math/rand/v2"
	"slices"
	"testing"

	"bedrock/api"
)

// anchors are both of them, as they are handed in and answered.
type anchors = [2]api.Anchor

func place3(x, y, z int) api.Place { return api.Place{X: x, Y: y, Z: z} }

func spot(x, y, z int) api.Spot { return api.Spot{X: x, Y: y, Z: z} }

// on is an anchor that is on at that spot, be it one or none.
func on(x, y, z int) api.Anchor { return api.Anchor{Spot: spot(x, y, z), On: true} }

// off is one that is off, with a spot of its own none the less.
func off(x, y, z int) api.Anchor { return api.Anchor{Spot: spot(x, y, z)} }

// levels are numbers of all sorts at which, as X or Z, a spot may be or not.
var levels = []int{
	math.MinInt, math.MinInt + 1, math.MinInt + 2, -1<<32 - 65536, -1 << 32, -1<<32 + 1, -1 << 20, -1<<17 - 1,
	-65539, -65538, -65537, -65536, -65535, -65534, -4097, -2, -1, 0, 1, 2, 4096, 65533, 65534, 65535, 65536, 65537,
	1<<17 - 1, 1 << 20, 1<<32 - 1, 1 << 32, 1<<32 + 65535, math.MaxInt - 2, math.MaxInt - 1, math.MaxInt,
}

// heights are such as Y.
var heights = []int{math.MinInt, math.MinInt + 1, -1 << 32, -4, -2, -1, 0, 1, 2, 3, 4, 5, 8, 1 << 32, 1<<32 + 3, math.MaxInt - 1, math.MaxInt}

// edges are some of the levels: enough of them to stand beside one another.
var edges = []int{math.MinInt, math.MinInt + 1, -65538, -65537, -65536, -65535, -2, -1, 0, 1, 2, 65534, 65535, 65536, 65537, math.MaxInt - 1, math.MaxInt}

// noIDs are numbers of no anchor: some of them are one in fewer bits.
var noIDs = []int{-1, -2, -3, 2, 3, 4, 8, 255, 256, 257, 1 << 16, 1 << 32, 1<<32 + 1, -1 << 32, math.MinInt, math.MinInt + 1, math.MaxInt - 1, math.MaxInt}

func drawer(seed uint64) *rand.Rand { return rand.New(rand.NewPCG(seed, 17)) }

func isSpot(s api.Spot) bool {
	return s.X >= -65536 && s.X <= 65535 && s.Z >= -65536 && s.Z <= 65535 && s.Y >= 0 && s.Y <= 3
}

// away tells whether the numbers are at most 1 away from each other, in numbers that cannot run over.
func away(a, b int) bool {
	d := new(big.Int).Sub(big.NewInt(int64(a)), big.NewInt(int64(b)))
	return d.CmpAbs(big.NewInt(1)) <= 0
}

// beside are the numbers of a spot, as X or Z, that are at most 1 away from n.
func beside(n int) []int {
	var l []int
	at := min(max(n, -65536), 65535)
	for k := at - 3; k <= at+3; k++ {
		if k >= -65536 && k <= 65535 && away(k, n) {
			l = append(l, k)
		}
	}
	return l
}

// ticks is what ticks, by the document's words: column by column, put in order, each once.
func ticks(l anchors) []api.Spot {
	var columns [][2]int
	for _, a := range l {
		if !a.On {
			continue
		}
		for _, x := range beside(a.Spot.X) {
			for _, z := range beside(a.Spot.Z) {
				columns = append(columns, [2]int{x, z})
			}
		}
	}
	slices.SortFunc(columns, func(a, b [2]int) int { return slices.Compare(a[:], b[:]) })
	var spots []api.Spot
	for _, c := range slices.Compact(columns) {
		spots = append(spots, spot(c[0], 0, c[1]), spot(c[0], 1, c[1]), spot(c[0], 2, c[1]), spot(c[0], 3, c[1]))
	}
	return spots
}

// told holds Spots against the account, and answers it.
func told(t *testing.T, l anchors) []api.Spot {
	t.Helper()
	got := Spots(l)
	if want := ticks(l); !slices.Equal(got, want) {
		t.Fatalf("Spots(%v) = %v, want %v", l, got, want)
	}
	return got
}

// drawn is an anchor at random, on or off, at numbers of these.
func drawn(r *rand.Rand, wide []int) api.Anchor {
	pick := func(l []int) int { return l[r.IntN(len(l))] }
	return api.Anchor{Spot: spot(pick(wide), pick(heights), pick(wide)), On: r.IntN(4) > 0}
}

// The chapter's examples.
func TestExamples(t *testing.T) {
	var none anchors
	got, e := Put(none, 0, place3(5, 20, -1))
	if want := (anchors{on(0, 1, -1), {}}); got != want || e != api.OK {
		t.Errorf("Put(off off, 0, (5 20 -1)) = %v, %d", got, e)
	}
	for _, x := range []struct {
		id   int
		p    api.Place
		want api.Errno
	}{{2, place3(0, 0, 0), api.ErrArg}, {0, place3(0, 64, 0), api.ErrPlace}, {-1, place3(0, 64, 0), api.ErrArg}} {
		if got, e := Put(none, x.id, x.p); got != none || e != x.want {
			t.Errorf("Put(.., %d, %v) = %v, %d, want %d", x.id, x.p, got, e, x.want)
		}
	}
	if got, e := Lift(none, 2); got != none || e != api.ErrArg {
		t.Errorf("Lift(.., 2) = %v, %d", got, e)
	}
	if l := Spots(none); len(l) != 0 {
		t.Errorf("Spots(off off) = %v", l)
	}
	l := Spots(anchors{on(0, 0, 0)})
	if len(l) != 36 || l[0] != spot(-1, 0, -1) || l[1] != spot(-1, 1, -1) || l[35] != spot(1, 3, 1) {
		t.Errorf("Spots(on at 0 0 0) = %v", l)
	}
	if l := Spots(anchors{on(-65536, 0, -65536)}); len(l) != 16 {
		t.Errorf("Spots(on at -65536 0 -65536) = %v", l)
	}
	if l := Spots(anchors{on(0, 0, 0), on(1, 3, 0)}); len(l) != 48 {
		t.Errorf("Spots(on at 0 0 0 and 1 3 0) = %v", l)
	}
	for s, want := range map[api.Spot]bool{spot(1, 3, -1): true, spot(2, 0, 0): false, spot(0, 4, 0): false} {
		if got := In(anchors{on(0, 0, 0)}, s); got != want {
			t.Errorf("In(on at 0 0 0; %v) = %t", s, got)
		}
	}
}
