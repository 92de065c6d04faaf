package runs

import (
	"math"
	"math/big"
	"math/rand"
	"slices"
	"testing"

	"bedrock/api"
)

// wantNumber is chapter 4's a number's bytes, of any number from 0 on.
func wantNumber(n *big.Int) []byte {
	var l []byte
	rest, digit, base := new(big.Int).Set(n), new(big.Int), big.NewInt(128)
	for len(l) == 0 || rest.Sign() > 0 {
		rest.QuoRem(rest, base, digit)
		l = append(l, byte(digit.Uint64()))
	}
	for i := range len(l) - 1 {
		l[i] += 128
	}
	return l
}

// stretch is so many numbers, all of them the same.
type stretch struct {
	n  int
	of uint8
}

// wantRuns are the row's runs by the document's words: a number goes to the run ahead of it where it is the one ahead of it.
func wantRuns(l []uint8) []stretch {
	var runs []stretch
	for i, x := range l {
		if i == 0 || l[i-1] != x {
			runs = append(runs, stretch{0, x})
		}
		runs[len(runs)-1].n++
	}
	return runs
}

// written are the bytes of runs that are told, be they a row's or not.
func written(runs ...stretch) []byte {
	var b []byte
	for _, r := range runs {
		b = append(append(b, wantNumber(big.NewInt(int64(r.n)))...), r.of)
	}
	return b
}

func wantPut(l []uint8) []byte { return written(wantRuns(l)...) }

// laid is the row of stretches one behind the other.
func laid(stretches ...stretch) []uint8 {
	var l []uint8
	for _, s := range stretches {
		l = append(l, slices.Repeat([]uint8{s.of}, s.n)...)
	}
	return l
}

// lengths are those of runs: the least, those next to the borders at which a number takes a byte more, and the greatest.
var lengths = []int{1, 2, 3, 126, 127, 128, 129, 255, 256, 300, 4096, 16383, 16384, 16385, 32768, 65535, 65536}

// numbers are the least and the greatest, and those next to the border from which on a byte looks like one of several.
var numbers = []uint8{0, 1, 2, 127, 128, 129, 254, 255}

// rows are rows that may be read back: of nothing, of one number, of one run, of runs of one number each, of runs of all lengths.
func rows() [][]uint8 {
	l := [][]uint8{nil, {}, {0, 0, 5, 0}, {0, 255, 0, 255}, {255, 255, 0}, {1, 1, 2, 2, 1, 1}}
	for n := range 256 {
		x := uint8(n)
		l = append(l, []uint8{x}, []uint8{x, x}, []uint8{x, ^x}, []uint8{x, x, x, ^x, x})
	}
	for _, n := range lengths {
		for _, x := range numbers {
			l = append(l, laid(stretch{n, x}))
		}
		ups := make([]uint8, n)
		for i := range ups {
			ups[i] = uint8(i)
		}
		l = append(l, ups)
	}
	l = append(l,
		laid(stretch{127, 0}, stretch{128, 255}, stretch{1, 0}, stretch{16383, 255}, stretch{16384, 128}, stretch{1, 7}),
		laid(stretch{1, 1}, stretch{65534, 0}, stretch{1, 1}),
		laid(stretch{65535, 0}, stretch{1, 255}),
		laid(stretch{1, 255}, stretch{65535, 0}),
		laid(stretch{128, 128}, stretch{129, 129}, stretch{128, 128}),
	)
	draw := rand.New(rand.NewSource(5))
	for range 200 {
		var stretches []stretch
		for range draw.Intn(40) {
			stretches = append(stretches, stretch{1 + draw.Intn(1+draw.Intn(400)), numbers[draw.Intn(len(numbers))]})
		}
		l = append(l, laid(stretches...))
	}
	return l
}

// longRows are longer than what may be read back.
func longRows() [][]uint8 {
	return [][]uint8{
		laid(stretch{65537, 0}), laid(stretch{70000, 9}), laid(stretch{65536, 9}, stretch{1, 8}),
		laid(stretch{2097151, 1}, stretch{2097152, 2}), slices.Repeat([]uint8{1, 2}, 40000),
	}
}

// behinds are bytes behind a row's: none, such as look like another run, the same one, and many.
func behinds() [][]byte {
	return [][]byte{nil, {0}, {0x99}, {1, 7}, {1, 0, 1, 255}, {0x80}, {255, 255, 255}, slices.Repeat([]byte{1, 0, 1, 255}, 300)}
}

// gets tells what Get answered, where it is the row and how many bytes it has.
func gets(t *testing.T, what string, b []byte, n int, row []uint8, size int) {
	t.Helper()
	l, got, e := Get(b, n)
	if e != api.OK || got != size || !slices.Equal(l, row) {
		t.Errorf("%s: Get(%d bytes, %d) = %d numbers, %d, error %d, want %d numbers, %d, or they are others", what, len(b), n, len(l), got, e, len(row), size)
	}
}

// refuses tells that Get answers the error, and nothing beside it.
func refuses(t *testing.T, what string, b []byte, n int, want api.Errno) {
	t.Helper()
	if l, size, e := Get(b, n); len(l) != 0 || size != 0 || e != want {
		t.Errorf("%s: Get(%d bytes, %d) = %d numbers, %d, error %d, want error %d alone", what, len(b), n, len(l), size, e, want)
	}
}

// P5.1
func TestPutAndCount(t *testing.T) {
	for _, l := range slices.Concat(rows(), longRows()) {
		if got, want := Put(l), wantPut(l); !slices.Equal(got, want) {
			t.Errorf("Put of %d numbers has %d bytes, want %d, or they are others", len(l), len(got), len(want))
		}
		if got, want := Count(l), len(wantRuns(l)); got != want {
			t.Errorf("Count of %d numbers = %d, want %d", len(l), got, want)
		}
	}
}

// P5.1: bytes and counts that are written out.
func TestPutWrittenOut(t *testing.T) {
	for _, x := range []struct {
		l     []uint8
		b     string
		count int
	}{
		{nil, "", 0}, {[]uint8{0}, "\x01\x00", 1}, {[]uint8{255}, "\x01\xff", 1},
		{[]uint8{255, 0, 255}, "\x01\xff\x01\x00\x01\xff", 3},
		{[]uint8{1, 1, 2, 2, 2, 1}, "\x02\x01\x03\x02\x01\x01", 3},
		{laid(stretch{127, 0}), "\x7f\x00", 1}, {laid(stretch{128, 0}), "\x80\x01\x00", 1},
		{laid(stretch{16383, 255}), "\xff\x7f\xff", 1}, {laid(stretch{16384, 255}), "\x80\x80\x01\xff", 1},
		{laid(stretch{65536, 128}), "\x80\x80\x04\x80", 1},
		{laid(stretch{127, 5}, stretch{128, 6}), "\x7f\x05\x80\x01\x06", 2},
	} {
		if got := Put(x.l); string(got) != x.b {
			t.Errorf("Put of %d numbers = % x, want % x", len(x.l), got, x.b)
		}
		if got := Count(x.l); got != x.count {
			t.Errorf("Count of %d numbers = %d, want %d", len(x.l), got, x.count)
		}
	}
}

// P5.1: runs are gone through one by one, and no further than is asked.
func TestEach(t *testing.T) {
	l := []uint8{0, 0, 5, 0, 0, 0}
	row := each(l)
	for range 2 {
		var got []stretch
		for run := range row {
			got = append(got, stretch{len(run), run[0]})
			if len(got) == 2 {
				break
			}
		}
		if want := []stretch{{2, 0}, {1, 5}}; !slices.Equal(got, want) {
			t.Errorf("the first two runs are %v, want %v", got, want)
		}
	}
}

// P5.2, P5.3: Get of Put's bytes, and whatever stands behind them.
func TestThereAndBack(t *testing.T) {
	for _, l := range rows() {
		b := Put(l)
		for _, behind := range behinds() {
			gets(t, "there and back", slices.Concat(b, behind), len(l), l, len(b))
		}
	}
}

// P5.2: n that is none, ahead of all that b may be.
func TestNoLength(t *testing.T) {
	long := written(stretch{65537, 3})
	for _, n := range []int{math.MinInt, -65536, -256, -2, -1, 65537, 65538, 1 << 17, 1 << 31, 1 << 32, 1<<32 + 1, math.MaxInt} {
		for _, b := range [][]byte{nil, {}, {3, 7}, {0, 7}, {0x80}, long} {
			refuses(t, "no length", b, n, api.ErrArg)
		}
	}
}

// P5.2: n from 0 to 65536, at the edges, and next to what b holds.
func TestLengths(t *testing.T) {
	for _, b := range [][]byte{nil, {}, {0}, {0, 7}, {0x80}, {255, 255}, {1, 7}} {
		gets(t, "of nothing", b, 0, nil, 0)
	}
	for _, l := range rows() {
		b := wantPut(l)
		for _, n := range []int{1, len(l) - 1, len(l) + 1, 65536} {
			if n <= 0 || n > 65536 || n == len(l) {
				continue
			}
			// Where a row's beginning ends with a run it is a row of its own.
			if n < len(l) && l[n-1] != l[n] {
				gets(t, "a beginning", b, n, l[:n], len(wantPut(l[:n])))
				continue
			}
			refuses(t, "another length", b, n, api.ErrForm)
		}
	}
}

// P5.2: runs that are no row's, next to others that are.
func TestNoRuns(t *testing.T) {
	for _, x := range []struct {
		what string
		b    []byte
		n    int
	}{
		{"no number ahead", written(stretch{0, 7}, stretch{1, 7}), 1},
		{"no number in the midst", written(stretch{1, 7}, stretch{0, 8}, stretch{1, 9}), 2},
		{"no number, of what stands ahead", written(stretch{1, 7}, stretch{0, 7}, stretch{1, 8}), 2},
		{"no number alone", written(stretch{0, 7}), 1},
		{"two that ought to be one", written(stretch{1, 7}, stretch{2, 7}), 3},
		{"two that ought to be one, of 0", written(stretch{1, 0}, stretch{1, 0}), 2},
		{"two that ought to be one, of 255", written(stretch{1, 255}, stretch{1, 255}), 2},
		{"two that ought to be one, in the midst", written(stretch{1, 1}, stretch{128, 7}, stretch{127, 7}, stretch{1, 1}), 257},
		{"two that ought to be one, at the end", written(stretch{65535, 7}, stretch{1, 7}), 65536},
		{"one more than n", written(stretch{4, 7}), 3},
		{"one more than n, behind another", written(stretch{2, 7}, stretch{2, 8}), 3},
		{"one more than the greatest n", written(stretch{65537, 7}), 65536},
		{"256 more than n", written(stretch{257, 7}), 1},
		{"65536 more than n", written(stretch{65539, 7}), 3},
		{"2^32 more than n", written(stretch{1<<32 + 3, 7}), 3},
		{"2^63 - 1", written(stretch{math.MaxInt64, 7}), 65536},
		{"bytes that are none of a number", []byte{0x83, 0x80, 0, 7}, 3},
		{"a number with a byte too many", []byte{0x83, 0, 7}, 3},
		{"a number with a byte too many, behind another", []byte{1, 7, 0x82, 0, 8}, 3},
		{"0 with a byte too many", []byte{0x80, 0, 7, 1, 7}, 1},
		{"128 with a byte too many", []byte{0x80, 0x81, 0, 7}, 128},
	} {
		refuses(t, x.what, x.b, x.n, api.ErrForm)
		refuses(t, x.what+", with others behind", append(x.b, 1, 7, 2, 8), x.n, api.ErrForm)
	}
}

// huges are the numbers next to 2^63, 2^64 and 2^65, as far from them as what stands ahead of a run in the tests, and n, ask for.
func huges() []*big.Int {
	var l []*big.Int
	for bits := uint(63); bits <= 65; bits++ {
		around := new(big.Int).Lsh(big.NewInt(1), bits)
		for away := int64(-140); away <= 140; away++ {
			l = append(l, new(big.Int).Add(around, big.NewInt(away)))
		}
	}
	return l
}

// P5.2: lengths of a run near 2^64 and above, also behind another one, where the sum of both goes round to n.
func TestHugeRuns(t *testing.T) {
	for _, huge := range huges() {
		b := append(wantNumber(huge), 7)
		for _, n := range []int{1, 2, 3, 127, 128, 129, 65535, 65536} {
			for _, ahead := range []int{0, 1, 2, 127, 128} {
				// Where what stands ahead has n numbers it is the row, whatever stands behind.
				if ahead < n {
					refuses(t, huge.String(), append(wantPut(laid(stretch{ahead, 8})), b...), n, api.ErrForm)
				}
			}
		}
	}
}

// P5.3: a row's bytes that are cut short anywhere.
func TestCut(t *testing.T) {
	for _, l := range rows() {
		b := wantPut(l)
		step := 1 + len(b)/500
		for cut := 0; cut < len(b); cut += step {
			refuses(t, "cut", b[:cut], len(l), api.ErrForm)
		}
		for cut := max(0, len(b)-8); cut < len(b); cut++ {
			refuses(t, "cut near the end", b[:cut], len(l), api.ErrForm)
		}
	}
}

// letters are the bytes of which all short rows of bytes are made: with them numbers of one byte and of two can be written.
var letters = []byte{0, 1, 2, 3, 0x80, 0x81, 255}

// words are all rows of so many letters.
func words(n int) [][]byte {
	l := [][]byte{{}}
	for range n {
		var more [][]byte
		for _, ahead := range l {
			for _, x := range letters {
				more = append(more, append(slices.Clone(ahead), x))
			}
		}
		l = more
	}
	return l
}

// P5.2, P5.3: of all short rows of bytes Get takes those, and just those, that begin with a row's.
func TestAllShort(t *testing.T) {
	for n := range 5 {
		of := map[string][]uint8{}
		for _, l := range words(n) {
			of[string(wantPut(l))] = l
		}
		for size := range 7 {
			for _, b := range words(size) {
				begins := -1
				for i := range len(b) + 1 {
					if of[string(b[:i])] != nil {
						begins = i
					}
				}
				if begins < 0 {
					refuses(t, "of all short ones", b, n, api.ErrForm)
					continue
				}
				gets(t, "of all short ones", b, n, of[string(b[:begins])], begins)
			}
		}
	}
}

// P5.3: bytes of rows with one of them changed: what Get takes is just what Put answers of the row.
func TestOneByteChanged(t *testing.T) {
	for _, l := range rows() {
		b := wantPut(l)
		if len(b) > 100 {
			continue
		}
		for i := range b {
			for _, by := range []byte{1, 2, 3, 0x7f, 0x80, 0x81, 0xff} {
				changed := slices.Clone(b)
				changed[i] += by
				row, size, e := Get(changed, len(l))
				if e == api.ErrForm && len(row) == 0 && size == 0 {
					continue
				}
				if e != api.OK || len(row) != len(l) || !slices.Equal(wantPut(row), changed[:size]) {
					t.Fatalf("of % x are taken %d bytes, for %d numbers, error %d", changed, size, len(row), e)
				}
			}
		}
	}
}

// P5.4: no call panics, whatever it is handed.
func TestAnyBytes(t *testing.T) {
	draw := rand.New(rand.NewSource(55))
	for range 20000 {
		b := make([]byte, draw.Intn(40))
		for i := range b {
			b[i] = byte(draw.Intn(1 + draw.Intn(256)))
		}
		n := draw.Intn(20)
		row, size, e := Get(b, n)
		switch {
		case e == api.ErrForm && len(row) == 0 && size == 0:
		case e == api.OK && len(row) == n && slices.Equal(wantPut(row), b[:size]):
		default:
			t.Fatalf("Get(% x, %d) = %v, %d, error %d", b, n, row, size, e)
		}
		if got, want := Put(b), wantPut(b); !slices.Equal(got, want) {
			t.Fatalf("Put(% x) = % x, want % x", b, got, want)
		}
	}
}

// roomy tells l with some room behind it, and the whole, room and all: there are 5a in the room.
func roomy(l []uint8) (ahead, all []uint8) {
	all = append(slices.Clone(l), slices.Repeat([]uint8{0x5a}, 20)...)
	return all[:len(l)], all
}

// overwrite turns all bits of l over, of its room too.
func overwrite(l []uint8) {
	l = l[:cap(l)]
	for i := range l {
		l[i] = ^l[i]
	}
}

// unchanged tells that the whole stayed as it was.
func unchanged(t *testing.T, what string, all, before []uint8) {
	t.Helper()
	if !slices.Equal(all, before) {
		t.Errorf("%s has changed", what)
	}
}

// P5.4: what is handed to Put and Count, and its room, stays as it was, also when the answer is changed; and the answer, when they are.
func TestPutNewMemory(t *testing.T) {
	for _, l := range rows() {
		row, all := roomy(l)
		before, want := slices.Clone(all), wantPut(l)
		first, second := Put(row), Put(row)
		Count(row)
		unchanged(t, "the row", all, before)
		overwrite(second)
		unchanged(t, "the row, when the answer was changed,", all, before)
		overwrite(all)
		unchanged(t, "the answer, when others were changed,", first, want)
	}
}

// P5.4: what is handed to Get, and its room, stays as it was, also when the answer is changed; and the answer, when they are.
func TestGetNewMemory(t *testing.T) {
	for _, l := range rows() {
		for _, ahead := range [][]byte{wantPut(l), append(wantPut(l), 1, 2, 3)} {
			b, all := roomy(ahead)
			before := slices.Clone(all)
			first, _, _ := Get(b, len(l))
			second, _, _ := Get(b, len(l))
			Get(b, len(l)+1)
			unchanged(t, "the bytes", all, before)
			overwrite(second)
			unchanged(t, "the bytes, when the answer was changed,", all, before)
			overwrite(all)
			unchanged(t, "the answer, when others were changed,", first, l)
		}
	}
}

// The chapter's examples.
func TestExamples(t *testing.T) {
	for _, x := range []struct {
		l []uint8
		b string
	}{
		{nil, ""}, {[]uint8{7}, "\x01\x07"}, {[]uint8{7, 7, 7}, "\x03\x07"}, {[]uint8{0, 0, 5, 0}, "\x02\x00\x01\x05\x01\x00"},
		{slices.Repeat([]uint8{9}, 300), "\xac\x02\x09"},
	} {
		if got := Put(x.l); string(got) != x.b {
			t.Errorf("Put(%v) = % x, want % x", x.l, got, x.b)
		}
	}
	if n := Count(slices.Repeat([]uint8{9}, 300)); n != 1 {
		t.Errorf("Count of 300 times 9 = %d", n)
	}
	if n := Count([]uint8{0, 0, 5, 0}); n != 3 {
		t.Errorf("Count of 0 0 5 0 = %d", n)
	}
	sevens := []uint8{7, 7, 7}
	gets(t, "03 07", []byte{3, 7}, 3, sevens, 2)
	gets(t, "03 07 99", []byte{3, 7, 0x99}, 3, sevens, 2)
	refuses(t, "03 07 at 2", []byte{3, 7}, 2, api.ErrForm)
	refuses(t, "03 07 at 4", []byte{3, 7}, 4, api.ErrForm)
	refuses(t, "01 07 02 07", []byte{1, 7, 2, 7}, 3, api.ErrForm)
	gets(t, "00 07 at 0", []byte{0, 7}, 0, nil, 0)
	refuses(t, "00 07 01 07", []byte{0, 7, 1, 7}, 1, api.ErrForm)
	refuses(t, "83 00 07", []byte{0x83, 0, 7}, 3, api.ErrForm)
	refuses(t, "03", []byte{3}, 3, api.ErrForm)
	gets(t, "none at 0", nil, 0, nil, 0)
	refuses(t, "none at -1", nil, -1, api.ErrArg)
	refuses(t, "none at 65537", nil, 65537, api.ErrArg)
}
