package hash

import (
	"math"
	"math/big"
	"slices"
	"testing"

	"bedrock/api"
)

const most = math.MaxUint64

func at(x, y, z int) api.Place { return api.Place{X: x, Y: y, Z: z} }

// turn is 2^64.
var turn = new(big.Int).Lsh(big.NewInt(1), 64)

func large(n uint64) *big.Int { return new(big.Int).SetUint64(n) }

func power(k uint) *big.Int { return new(big.Int).Lsh(big.NewInt(1), k) }

// cut is x and x / 2^k, held against each other bit by bit.
func cut(x *big.Int, k uint) *big.Int {
	return new(big.Int).Xor(x, new(big.Int).Quo(x, power(k)))
}

func times(x *big.Int, base16 string) *big.Int {
	return wrapped(new(big.Int).Mul(x, hex(base16)))
}

func plus(x *big.Int, base16 string) *big.Int {
	return wrapped(new(big.Int).Add(x, hex(base16)))
}

func wrapped(x *big.Int) *big.Int { return x.Mod(x, turn) }

func hex(base16 string) *big.Int {
	n, ok := new(big.Int).SetString(base16, 16)
	if !ok {
		panic("no number to the base 16: " + base16)
	}
	return n
}

// wantMix is the document's mixing, on numbers that do not wrap round by themselves.
func wantMix(x uint64) uint64 {
	a := plus(large(x), "9e3779b97f4a7c15")
	b := times(cut(a, 30), "bf58476d1ce4e5b9")
	c := times(cut(b, 27), "94d049bb133111eb")
	return cut(c, 31).Uint64()
}

// stands is the number that an int stands for: itself, and 2^64 more below 0.
func stands(n int64) uint64 {
	return wrapped(big.NewInt(n)).Uint64()
}

func wantOf(seed uint64, p api.Place, now int64) uint64 {
	h := wantMix(seed)
	h = wantMix(h ^ stands(int64(p.X)))
	h = wantMix(h ^ stands(int64(p.Y)))
	h = wantMix(h ^ stands(int64(p.Z)))
	return wantMix(h ^ stands(now))
}

func wantBelow(h uint64, n int) int {
	if n < 1 {
		return 0
	}
	product := new(big.Int).Mul(large(h), big.NewInt(int64(n)))
	return int(product.Quo(product, turn).Int64())
}

// edges are numbers at which sums, products and signs turn round: each power of two, what is next to it, and what it lacks to 2^64; with what the mixing adds, some others, and the greatest.
func edges() []uint64 {
	var l []uint64
	for k := range 64 {
		n := uint64(1) << k
		l = append(l, n-1, n, n+1, -n-1, -n, -n+1)
	}
	for _, n := range []uint64{0x9e3779b97f4a7c15, 0xbf58476d1ce4e5b9, 0x94d049bb133111eb, 1234567, 0x0123456789abcdef, 0xfedcba9876543210} {
		l = append(l, n-1, n, n+1, -n-1, -n, -n+1)
	}
	slices.Sort(l)
	return slices.Compact(l)
}

// mixes are the edges, and a long row of numbers that lie apart.
func mixes() []uint64 {
	l := edges()
	for i := range uint64(20000) {
		l = append(l, i, i*0xd1342543de82ef95+7)
	}
	slices.Sort(l)
	return slices.Compact(l)
}

// P3.1
func TestMix(t *testing.T) {
	for _, x := range mixes() {
		if got, want := Mix(x), wantMix(x); got != want {
			t.Fatalf("Mix(%x) = %x, want %x", x, got, want)
		}
	}
}

// P3.1: 0, 1, next to 2^63, the greatest, and the last that does not go over 2^64 by what is added, by numbers that were worked out elsewhere.
func TestMixWrittenOut(t *testing.T) {
	for _, x := range []struct{ x, mixed uint64 }{
		{0, 0xe220a8397b1dcdaf},
		{1, 0x910a2dec89025cc1},
		{1<<63 - 1, 0x2a67d7552e039ea7},
		{1 << 63, 0x481ec0a212a9f3db},
		{1<<63 + 1, 0xdc29f439bcbdda2a},
		{most, 0xe4d971771b652c20},
		{0x61c8864680b583ea, 0xb4d055fcf2cbbd7b},
		{0x61c8864680b583eb, 0},
	} {
		if got := Mix(x.x); got != x.mixed {
			t.Errorf("Mix(%x) = %x, want %x", x.x, got, x.mixed)
		}
	}
}

// P3.1: a row of draws that is known of this mixing, of a counter that begins at 1234567 and goes over 2^64.
func TestMixOfCounter(t *testing.T) {
	x := uint64(1234567)
	for i, want := range []uint64{6457827717110365317, 3203168211198807973, 9817491932198370423, 4593380528125082431, 16408922859458223821} {
		if got := Mix(x); got != want {
			t.Errorf("draw %d: Mix(%x) = %d, want %d", i, x, got, want)
		}
		x += 0x9e3779b97f4a7c15
	}
}

// seeds, numbers and nows are what Of is asked with: no places, below 0, at the ends of a place's range and of int.
var (
	seeds   = []uint64{0, 1, 2, 7, 1<<32 - 1, 1 << 32, 1<<63 - 1, 1 << 63, 1<<63 + 1, most - 1, most}
	numbers = []int{math.MinInt, math.MinInt + 1, -1 << 32, -1048577, -1048576, -17, -3, -2, -1, 0, 1, 2, 3, 16, 63, 64, 1048575, 1048576, 1 << 31, 1 << 32, math.MaxInt - 1, math.MaxInt}
	nows    = []int64{math.MinInt64, math.MinInt64 + 1, -1 << 32, -2, -1, 0, 1, 2, 4, 1 << 32, 1 << 40, 1 << 41, math.MaxInt64 - 1, math.MaxInt64}
)

// ask is what Of is asked.
type ask struct {
	seed uint64
	p    api.Place
	now  int64
}

func (a ask) of() uint64 { return Of(a.seed, a.p, a.now) }

// bases are asks of all sorts, out of which others are made that differ in one number.
var bases = []ask{
	{},
	{7, at(1, 2, -3), 4},
	{1, at(1, 1, 1), 1},
	{most, at(-1, -1, -1), -1},
	{1 << 63, at(-1048576, 63, 1048575), 1 << 40},
	{most, at(math.MinInt, math.MinInt, math.MinInt), math.MinInt64},
	{1<<63 - 1, at(math.MaxInt, math.MaxInt, math.MaxInt), math.MaxInt64},
}

// rows are the asks that differ from one in one number alone: five rows, of the seed, X, Y, Z and the time.
func (a ask) rows() [5][]ask {
	var l [5][]ask
	for _, n := range seeds {
		b := a
		b.seed = n
		l[0] = append(l[0], b)
	}
	for _, n := range numbers {
		x, y, z := a, a, a
		x.p.X, y.p.Y, z.p.Z = n, n, n
		l[1], l[2], l[3] = append(l[1], x), append(l[2], y), append(l[3], z)
	}
	for _, n := range nows {
		b := a
		b.now = n
		l[4] = append(l[4], b)
	}
	return l
}

// P3.2: asks that differ in one number.
func TestOf(t *testing.T) {
	for _, base := range bases {
		for _, row := range base.rows() {
			for _, a := range row {
				if got, want := a.of(), wantOf(a.seed, a.p, a.now); got != want {
					t.Errorf("Of(%v) = %x, want %x", a, got, want)
				}
			}
		}
	}
}

// P3.2: asks whose numbers are all others, so that none may stand in another's stead.
func TestOfUnlikeNumbers(t *testing.T) {
	for i, seed := range seeds {
		for j := range numbers {
			p := at(numbers[j], numbers[(j+5)%len(numbers)], numbers[(j+11)%len(numbers)])
			now := nows[(i+j)%len(nows)]
			if got, want := Of(seed, p, now), wantOf(seed, p, now); got != want {
				t.Errorf("Of(%x, %v, %d) = %x, want %x", seed, p, now, got, want)
			}
		}
	}
}

// P3.2: at a world's places, as they come one behind the other.
func TestOfNearPlaces(t *testing.T) {
	met := map[uint64]ask{}
	for x := -4; x < 4; x++ {
		for y := range 8 {
			for z := -4; z < 4; z++ {
				for now := range int64(4) {
					a := ask{5, at(x, y, z), now}
					if got, want := a.of(), wantOf(a.seed, a.p, a.now); got != want {
						t.Fatalf("Of(%v) = %x, want %x", a, got, want)
					}
					if b, is := met[a.of()]; is {
						t.Errorf("Of(%v) and Of(%v) are the same", a, b)
					}
					met[a.of()] = a
				}
			}
		}
	}
}

// P3.2, R6: what is asked twice is answered twice the same, whatever is asked in between.
func TestOfAgain(t *testing.T) {
	var first []uint64
	for _, a := range bases {
		first = append(first, a.of())
	}
	for i := len(bases) - 1; i >= 0; i-- {
		if got := bases[i].of(); got != first[i] {
			t.Errorf("Of(%v) = %x, and once more %x", bases[i], first[i], got)
		}
	}
}

// parts are the n that Below is asked with: below 1, 1, powers of two, what is none, and the greatest.
func parts() []int {
	l := []int{math.MinInt, math.MinInt + 1, -1 << 32, -10, -2, -1, 0, 1, 5, 6, 7, 10, 100, 1000, 4095, 4096, 1000003, math.MaxInt}
	for k := 1; k < 63; k++ {
		l = append(l, 1<<k-1, 1<<k, 1<<k+1)
	}
	slices.Sort(l)
	return slices.Compact(l)
}

// first is the least h whose part is k of n: what is asked next to it is on the edge.
func first(k, n int) uint64 {
	x := new(big.Int).Mul(big.NewInt(int64(k)), turn)
	x.Add(x, big.NewInt(int64(n)-1))
	return x.Quo(x, big.NewInt(int64(n))).Uint64()
}

// P3.3
func TestBelow(t *testing.T) {
	for _, n := range parts() {
		for _, h := range edges() {
			below(t, h, n, wantBelow(h, n))
		}
	}
}

func below(t *testing.T, h uint64, n, want int) {
	t.Helper()
	if got := Below(h, n); got != want {
		t.Errorf("Below(%x, %d) = %d, want %d", h, n, got, want)
	}
}

// P3.3: each part begins and ends where the document's division has it, one h aside.
func TestBelowEdges(t *testing.T) {
	for _, n := range parts() {
		if n < 2 {
			continue
		}
		for _, k := range []int{1, 2, 3, n / 3, n / 2, n/2 + 1, n - 2, n - 1} {
			if k < 1 || k >= n {
				continue
			}
			below(t, first(k, n)-1, n, k-1)
			below(t, first(k, n), n, k)
		}
	}
}

// P3.3: of few parts, all of them, by numbers that are written out.
func TestBelowWrittenOut(t *testing.T) {
	for _, x := range []struct {
		h       uint64
		n, part int
	}{
		{0x5555555555555555, 3, 0}, {0x5555555555555556, 3, 1}, {0xaaaaaaaaaaaaaaaa, 3, 1}, {0xaaaaaaaaaaaaaaab, 3, 2},
		{0x3fffffffffffffff, 4, 0}, {0x4000000000000000, 4, 1}, {0xbfffffffffffffff, 4, 2}, {0xc000000000000000, 4, 3},
		{0x7fffffffffffffff, 2, 0}, {0x8000000000000000, 2, 1},
		{0x1999999999999999, 10, 0}, {0x199999999999999a, 10, 1}, {0xe666666666666666, 10, 8}, {0xe666666666666667, 10, 9},
		{1, math.MaxInt, 0}, {2, math.MaxInt, 0}, {3, math.MaxInt, 1}, {1 << 63, math.MaxInt, 1<<62 - 1},
		{most - 2, math.MaxInt, math.MaxInt - 2}, {most - 1, math.MaxInt, math.MaxInt - 1},
	} {
		below(t, x.h, x.n, x.part)
	}
}

// unmix leads back from what was mixed.
func unmix(x uint64) uint64 {
	x = (x ^ x>>31 ^ x>>62) * 0x319642b2d24d8ec3
	x = (x ^ x>>27 ^ x>>54) * 0x96de1b173f119089
	return (x ^ x>>30 ^ x>>60) - 0x9e3779b97f4a7c15
}

// P3.4: what was mixed leads back to what it was made of, and each number is some number's: no two are mixed to the same.
func TestMixApart(t *testing.T) {
	met := map[uint64]uint64{}
	for _, x := range mixes() {
		mixed := Mix(x)
		if back := unmix(mixed); back != x {
			t.Fatalf("Mix(%x) = %x, which leads back to %x", x, mixed, back)
		}
		if got := Mix(unmix(x)); got != x {
			t.Fatalf("Mix(%x) = %x, want %x", unmix(x), got, x)
		}
		if other, is := met[mixed]; is {
			t.Fatalf("Mix(%x) and Mix(%x) are the same", x, other)
		}
		met[mixed] = x
	}
}

// P3.4: numbers that are unlike in one bit.
func TestMixApartByBits(t *testing.T) {
	for _, x := range edges() {
		for k := range 64 {
			if y := x ^ 1<<k; Mix(x) == Mix(y) {
				t.Errorf("Mix(%x) and Mix(%x) are the same", x, y)
			}
		}
	}
}

// P3.4
func TestOfApart(t *testing.T) {
	for _, base := range bases {
		for i, row := range base.rows() {
			met := map[uint64]ask{}
			for _, a := range row {
				if b, is := met[a.of()]; is {
					t.Errorf("row %d: Of(%v) and Of(%v) are the same", i, a, b)
				}
				met[a.of()] = a
			}
		}
	}
}

// P3.4: asks that differ in one bit of one number.
func TestOfApartByBits(t *testing.T) {
	for _, a := range bases {
		for k := range 64 {
			bit := uint64(1) << k
			others := [5]ask{a, a, a, a, a}
			others[0].seed ^= bit
			others[1].p.X ^= int(bit)
			others[2].p.Y ^= int(bit)
			others[3].p.Z ^= int(bit)
			others[4].now ^= int64(bit)
			for _, b := range others {
				if a.of() == b.of() {
					t.Errorf("Of(%v) and Of(%v) are the same", a, b)
				}
			}
		}
	}
}

// P3.5: of all these h, as they rise, the part never falls, and stays from 0 to n - 1.
func TestBelowRises(t *testing.T) {
	l := mixes()
	for _, n := range parts() {
		last := 0
		for _, h := range l {
			got := Below(h, n)
			if got < last || got < 0 || got > max(n-1, 0) {
				t.Fatalf("Below(%x, %d) = %d, behind %d", h, n, got, last)
			}
			last = got
		}
	}
}

// P3.5: from one h to the next one the part stays, or is one more.
func TestBelowSideBySide(t *testing.T) {
	for _, n := range parts() {
		for _, h := range edges() {
			if h == most {
				continue
			}
			if got, next := Below(h, n), Below(h+1, n); next != got && next != got+1 {
				t.Errorf("Below(%x, %d) = %d, of the next one %d", h, n, got, next)
			}
		}
	}
}

// P3.5
func TestBelowEnds(t *testing.T) {
	for _, n := range parts() {
		below(t, 0, n, 0)
		below(t, most, n, max(n, 1)-1)
	}
}

// P3.6: a panic of any call at any argument ends the test.
func TestNoPanic(t *testing.T) {
	for _, x := range edges() {
		Mix(x)
		Of(x, at(int(x), int(-x), int(^x)), int64(x))
		for _, n := range parts() {
			Below(x, n)
			Below(x, int(x))
		}
	}
}

// The chapter's examples.
func TestExamplesOfMix(t *testing.T) {
	for _, x := range []struct{ x, mixed uint64 }{
		{0, 0xe220a8397b1dcdaf}, {0x9e3779b97f4a7c15, 0x6e789e6aa1b965f4}, {0x3c6ef372fe94f82a, 0x06c45d188009454f},
	} {
		if got := Mix(x.x); got != x.mixed {
			t.Errorf("Mix(%x) = %x, want %x", x.x, got, x.mixed)
		}
	}
}

func TestExamplesOfOf(t *testing.T) {
	if got, want := Of(0, at(0, 0, 0), 0), Mix(Mix(Mix(Mix(Mix(0))))); got != want {
		t.Errorf("Of(0, (0, 0, 0), 0) = %x, want %x", got, want)
	}
	want := Mix(Mix(Mix(Mix(Mix(7)^1)^2)^0xfffffffffffffffd) ^ 4)
	if got := Of(7, at(1, 2, -3), 4); got != want {
		t.Errorf("Of(7, (1, 2, -3), 4) = %x, want %x", got, want)
	}
}

func TestExamplesOfBelow(t *testing.T) {
	below(t, 1<<63, 10, 5)
	below(t, most, 10, 9)
	below(t, 1<<63, 0, 0)
	below(t, 1<<63, -1, 0)
}
