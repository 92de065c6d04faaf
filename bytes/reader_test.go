package bytes

import (
	"fmt"
	"math"
	"math/big"
	"slices"
	"strings"
	"testing"

	"bedrock/api"
)

// reads are the calls of a reader.
type reads interface {
	Num() uint64
	Int() int64
	Text(most int) string
	Take(n int) []byte
	Fixed(width int) uint64
	Left() int
	Err() api.Errno
	End() api.Errno
}

// model is a reader by the document's words: what can be read is what bytes were put of.
type model struct {
	left   []byte
	broken bool
}

// number tells the number with whose bytes what is left begins, and how many they are.
func (m *model) number() (n *big.Int, size int, ok bool) {
	end := slices.IndexFunc(m.left, func(x byte) bool { return x < 128 })
	if end < 0 {
		return nil, 0, false
	}
	n = new(big.Int)
	for _, x := range slices.Backward(m.left[:end+1]) {
		n.Add(n.Lsh(n, 7), big.NewInt(int64(x%128)))
	}
	ok = n.BitLen() <= 64 && slices.Equal(wantNumber(n), m.left[:end+1])
	return n, end + 1, ok
}

func (m *model) pass(n int, ok bool) []byte {
	if m.broken || !ok {
		m.broken = true
		return nil
	}
	b := slices.Clone(m.left[:n])
	m.left = m.left[n:]
	return b
}

func (m *model) Num() uint64 {
	n, size, ok := m.number()
	if m.pass(size, ok) == nil {
		return 0
	}
	return n.Uint64()
}

func (m *model) Int() int64 {
	n := large(m.Num())
	if n.Bit(0) == 1 {
		n.Neg(n.Add(n, big.NewInt(1)))
	}
	return n.Quo(n, big.NewInt(2)).Int64()
}

func (m *model) Text(most int) string {
	n, size, ok := m.number()
	ok = ok && n.Cmp(big.NewInt(int64(len(m.left)-size))) <= 0 && n.Cmp(big.NewInt(int64(most))) <= 0
	if !ok {
		m.pass(0, false)
		return ""
	}
	m.pass(size, true)
	return string(m.pass(int(n.Int64()), true))
}

func (m *model) Take(n int) []byte { return m.pass(n, 0 <= n && n <= len(m.left)) }

func (m *model) Fixed(width int) uint64 {
	n := new(big.Int)
	for _, x := range slices.Backward(m.pass(width, 1 <= width && width <= 8 && width <= len(m.left))) {
		n.Add(n.Lsh(n, 8), big.NewInt(int64(x)))
	}
	return n.Uint64()
}

func (m *model) Left() int { return len(m.left) }

func (m *model) Err() api.Errno {
	if m.broken {
		return api.ErrForm
	}
	return api.OK
}

func (m *model) End() api.Errno {
	m.broken = m.broken || len(m.left) > 0
	return m.Err()
}

// ask is a call of a reader: its name with what it is handed, and what it tells, written out.
type ask struct {
	name string
	does func(r reads) string
}

// tells is what a reader answers to the call, and what it says of itself behind it.
func (a ask) tells(r reads) string {
	return fmt.Sprintf("%s; %d left, error %d", a.does(r), r.Left(), r.Err())
}

// lengths are what Text and Take are asked with.
var lengths = []int{math.MinInt, -2, -1, 0, 1, 2, 3, 4, 5, 7, 8, 9, 10, 11, 12, 127, 128, 130, 131, math.MaxInt}

func asks() []ask {
	l := []ask{
		{"Num", func(r reads) string { return fmt.Sprint(r.Num()) }},
		{"Int", func(r reads) string { return fmt.Sprint(r.Int()) }},
		{"End", func(r reads) string { return fmt.Sprint(r.End()) }},
	}
	for _, n := range lengths {
		l = append(l, ask{fmt.Sprintf("Text(%d)", n), func(r reads) string { return fmt.Sprintf("%x", r.Text(n)) }})
		l = append(l, ask{fmt.Sprintf("Take(%d)", n), func(r reads) string { return fmt.Sprintf("%x", r.Take(n)) }})
	}
	for _, n := range widths {
		l = append(l, ask{fmt.Sprintf("Fixed(%d)", n), func(r reads) string { return fmt.Sprint(r.Fixed(n)) }})
	}
	return l
}

// badNumbers are bytes with which no number's begin: none, numbers that end too early, whose last byte is 0, whose tenth is above 1, and longer ones.
func badNumbers() [][]byte {
	l := [][]byte{{}}
	for size := 1; size <= 10; size++ {
		for _, x := range []byte{0x80, 0x81, 0xff} {
			l = append(l, slices.Repeat([]byte{x}, size))
		}
	}
	for size := 1; size <= 9; size++ {
		for _, x := range []byte{0x80, 0x81, 0xff} {
			l = append(l, append(slices.Repeat([]byte{x}, size), 0))
		}
	}
	for last := 2; last <= 255; last++ {
		for _, x := range []byte{0x80, 0xff} {
			l = append(l, append(slices.Repeat([]byte{x}, 9), byte(last)))
		}
	}
	for _, last := range []byte{0, 1, 2, 0x7f, 0x80, 0xff} {
		for _, tenth := range []byte{0x80, 0x81, 0xff} {
			l = append(l, append(slices.Repeat([]byte{0x80}, 9), tenth, last))
			l = append(l, append(slices.Repeat([]byte{0xff}, 9), tenth, last))
		}
	}
	return l
}

// rows are bytes to read: numbers, what is none, texts that are there or are cut, and others.
func rows() [][]byte {
	l := badNumbers()
	for _, n := range nums() {
		l = append(l, wantPut(n), append(wantPut(n), 'a', 'b', 0x80, 0))
	}
	for _, s := range texts()[:8] {
		l = append(l, wantText(s), append(wantText(s), 1), wantText(s)[:len(s)], append([]byte{5}, wantText(s)...))
	}
	l = append(l,
		wantText(strings.Repeat("é", 64)),
		wantText(strings.Repeat("é", 64))[:129],
		append(wantPut(1<<63), 1, 2, 3),
		append(wantPut(1<<63-1), 1, 2, 3),
		append(wantPut(1<<32), 1, 2, 3),
		[]byte{0x80, 0x80, 0x80, 0x80, 0x80, 0x80, 0x80, 0x80},
		[]byte{1, 2, 3, 4, 5, 6, 7, 8, 9, 10, 11, 12, 13, 14, 15, 16, 17},
		[]byte{0xff, 0xfe, 0xfd, 0xfc, 0xfb, 0xfa, 0xf9, 0xf8, 0xf7},
	)
	return l
}

// seconds are the asks of which at least one tells something of whatever a first one left.
func seconds(l []ask) []ask {
	names := []string{"Num", "Int", "End", "Text(2)", "Text(127)", "Take(0)", "Take(1)", "Fixed(1)", "Fixed(2)", "Fixed(9)"}
	return slices.DeleteFunc(slices.Clone(l), func(a ask) bool { return !slices.Contains(names, a.name) })
}

// P4.2, P4.3: of all these rows, each call, and others behind it, by the document's words.
func TestReaderByTheWords(t *testing.T) {
	l := asks()
	behind := seconds(l)
	for _, b := range rows() {
		for _, first := range l {
			for _, second := range behind {
				r, m := NewReader(b), &model{left: b}
				for _, a := range []ask{first, second} {
					if got, want := a.tells(r), a.tells(m); got != want {
						t.Fatalf("of % x: %s, %s: %s, want %s", b, first.name, second.name, got, want)
					}
				}
			}
		}
	}
}

// P4.2, P4.3: long rows of calls, drawn one after the other.
func TestReaderLongRows(t *testing.T) {
	all, draw := asks(), uint64(1)
	below := func(n int) int {
		draw = draw*6364136223846793005 + 1442695040888963407
		return int(draw >> 33 % uint64(n))
	}
	for range 20000 {
		b := make([]byte, below(60))
		for i := range b {
			b[i] = byte(below(256)) >> below(8)
		}
		r, m := NewReader(b), &model{left: b}
		for range 20 {
			a := all[below(len(all))]
			if got, want := a.tells(r), a.tells(m); got != want {
				t.Fatalf("of % x, with %d read: %s: %s, want %s", b, len(b)-len(m.left), a.name, got, want)
			}
		}
	}
}

// stands holds against a reader how many bytes are left, and whether it is broken.
func stands(t *testing.T, what string, r *Reader, left int, e api.Errno) {
	t.Helper()
	if r.Left() != left || r.Err() != e {
		t.Errorf("%s: %d left, error %d, want %d, %d", what, r.Left(), r.Err(), left, e)
	}
}

func is[T comparable](t *testing.T, what string, got, want T) {
	t.Helper()
	if got != want {
		t.Errorf("%s = %#v, want %#v", what, got, want)
	}
}

// P4.2: what is no number breaks a reader of numbers, of whole numbers and of texts, and stays unread.
func TestNoNumber(t *testing.T) {
	for _, b := range badNumbers() {
		r, s, u := NewReader(b), NewReader(b), NewReader(b)
		is(t, "Num", r.Num(), 0)
		is(t, "Int", s.Int(), 0)
		is(t, "Text", u.Text(math.MaxInt), "")
		for _, x := range []*Reader{r, s, u} {
			stands(t, fmt.Sprintf("of % x", b), x, len(b), api.ErrForm)
		}
	}
}

// P4.2
func TestNum(t *testing.T) {
	for _, n := range nums() {
		r := NewReader(wantPut(n))
		is(t, "Num", r.Num(), n)
		stands(t, "behind it", r, 0, api.OK)
		is(t, "End", r.End(), api.OK)
	}
}

// P4.2
func TestInt(t *testing.T) {
	for _, n := range ints() {
		r := NewReader(wantInt(n))
		is(t, "Int", r.Int(), n)
		stands(t, "behind it", r, 0, api.OK)
	}
}

// P4.2: at most the text's length, and one less, and below 0, of texts with and without something behind them.
func TestText(t *testing.T) {
	for _, s := range texts() {
		for _, behind := range []int{0, 3} {
			b := append(wantText(s), make([]byte, behind)...)
			for _, most := range []int{len(s), len(s) + 1, math.MaxInt} {
				r := NewReader(b)
				is(t, "Text", r.Text(most), s)
				stands(t, "behind it", r, behind, api.OK)
			}
			for _, most := range []int{len(s) - 1, -1, -len(s) - 1, math.MinInt} {
				r := NewReader(b)
				is(t, "Text of more than most", r.Text(most), "")
				stands(t, "behind it", r, len(b), api.ErrForm)
			}
		}
	}
}

// P4.2: a text that is longer than what is left, by one byte and by far.
func TestTextCut(t *testing.T) {
	for _, s := range texts()[1:] {
		b := wantText(s)
		r := NewReader(b[:len(b)-1])
		is(t, "Text", r.Text(math.MaxInt), "")
		stands(t, "behind it", r, len(b)-1, api.ErrForm)
	}
	for _, n := range nums() {
		if n < 4 {
			continue
		}
		b := append(wantPut(n), 'a', 'b', 'c')
		r := NewReader(b)
		is(t, "Text", r.Text(math.MaxInt), "")
		stands(t, "behind it", r, len(b), api.ErrForm)
	}
}

// P4.2: below 0, none, all, one more, and far more, at the beginning and behind some.
func TestTake(t *testing.T) {
	b := []byte{9, 8, 7, 0x80, 6}
	for at := range len(b) + 1 {
		left := len(b) - at
		for n := range left + 1 {
			r := NewReader(b)
			same(t, "Take", r.Take(at), b[:at])
			same(t, "Take", r.Take(n), b[at:at+n])
			stands(t, "behind it", r, left-n, api.OK)
		}
		for _, n := range []int{math.MinInt, -1, left + 1, left + 2, math.MaxInt} {
			r := NewReader(b)
			r.Take(at)
			same(t, "Take", r.Take(n), nil)
			stands(t, "behind it", r, left, api.ErrForm)
		}
	}
}

// P4.2: each width, of bytes that are just enough, and of one less.
func TestFixed(t *testing.T) {
	b := []byte{0x81, 0x92, 0xa3, 0xb4, 0xc5, 0xd6, 0xe7, 0xf8}
	for i, want := range []uint64{0x81, 0x9281, 0xa39281, 0xb4a39281, 0xc5b4a39281, 0xd6c5b4a39281, 0xe7d6c5b4a39281, 0xf8e7d6c5b4a39281} {
		width := i + 1
		all, just, few := NewReader(b), NewReader(b[:width]), NewReader(b[:width-1])
		is(t, "Fixed", all.Fixed(width), want)
		stands(t, "behind it", all, 8-width, api.OK)
		is(t, "Fixed of just enough", just.Fixed(width), want)
		stands(t, "behind it", just, 0, api.OK)
		is(t, "Fixed of too few", few.Fixed(width), 0)
		stands(t, "behind it", few, width-1, api.ErrForm)
	}
	for _, width := range widths {
		if width >= 1 && width <= 8 {
			continue
		}
		r := NewReader(make([]byte, 300))
		is(t, "Fixed of no width", r.Fixed(width), 0)
		stands(t, "behind it", r, 300, api.ErrForm)
	}
}

// breaks are the ways to break a reader of 02 61 62 80 00, each with how many bytes are left then.
var breaks = []struct {
	name string
	does func(r *Reader)
	left int
}{
	{"Num", func(r *Reader) { r.Take(3); r.Num() }, 2},
	{"Int", func(r *Reader) { r.Take(3); r.Int() }, 2},
	{"Num of cut bytes", func(r *Reader) { r.Take(5); r.Num() }, 0},
	{"Text of no number", func(r *Reader) { r.Text(2); r.Text(9) }, 2},
	{"Text of more than most", func(r *Reader) { r.Text(1) }, 5},
	{"Text of most below 0", func(r *Reader) { r.Text(-1) }, 5},
	{"Text of more than is left", func(r *Reader) { r.Take(1); r.Text(1000) }, 4},
	{"Take below 0", func(r *Reader) { r.Num(); r.Take(-1) }, 4},
	{"Take of one more", func(r *Reader) { r.Num(); r.Take(5) }, 4},
	{"Fixed of no width", func(r *Reader) { r.Take(1); r.Fixed(0) }, 4},
	{"Fixed of one more", func(r *Reader) { r.Take(3); r.Fixed(3) }, 2},
	{"End", func(r *Reader) { r.Take(4); r.End() }, 1},
	{"End at once", func(r *Reader) { r.End() }, 5},
}

// P4.2, P4.3: what is broken stays so, tells zero values, and what is left stays, whatever is asked.
func TestBroken(t *testing.T) {
	for _, way := range breaks {
		r := NewReader([]byte{2, 'a', 'b', 0x80, 0})
		way.does(r)
		stands(t, way.name, r, way.left, api.ErrForm)
		for range 2 {
			zeros(t, way.name, r)
			stands(t, way.name+", and then others", r, way.left, api.ErrForm)
			is(t, way.name+", and then End", r.End(), api.ErrForm)
		}
	}
}

// zeros asks all that reads, also what would be there, and what can be read of no bytes.
func zeros(t *testing.T, what string, r *Reader) {
	t.Helper()
	is(t, what+": Num", r.Num(), 0)
	is(t, what+": Int", r.Int(), 0)
	for _, n := range []int{-1, 0, 1, 2, 1000} {
		is(t, what+": Text", r.Text(n), "")
		is(t, what+": Take", len(r.Take(n)), 0)
		is(t, what+": Fixed", r.Fixed(n), 0)
	}
}

// P4.3: with nothing left End breaks nothing, as often as it is asked; with a byte left it does for good.
func TestEnd(t *testing.T) {
	r := NewReader([]byte{7})
	is(t, "Num", r.Num(), 7)
	for range 3 {
		is(t, "End", r.End(), api.OK)
		stands(t, "behind End", r, 0, api.OK)
	}
	is(t, "Take(0) behind End", len(r.Take(0)), 0)
	stands(t, "behind Take(0)", r, 0, api.OK)
	r = NewReader([]byte{7, 8, 9})
	is(t, "Num", r.Num(), 7)
	is(t, "End", r.End(), api.ErrForm)
	zeros(t, "behind End", r)
	stands(t, "behind End", r, 2, api.ErrForm)
}

// P4.2, P4.3: a reader of no bytes ends at once, and nothing but Take(0) can be read of it.
func TestNoBytes(t *testing.T) {
	for _, b := range [][]byte{nil, {}} {
		is(t, "End", NewReader(b).End(), api.OK)
		r := NewReader(b)
		stands(t, "of none", r, 0, api.OK)
		is(t, "Take(0)", len(r.Take(0)), 0)
		stands(t, "behind Take(0)", r, 0, api.OK)
		is(t, "Text", r.Text(0), "")
		stands(t, "behind Text", r, 0, api.ErrForm)
	}
}

// R3: a nil reader, and one that NewReader did not make, tell ErrNil and zero values, before and behind all calls.
func TestNoReader(t *testing.T) {
	var value Reader
	for _, r := range []*Reader{nil, {}, new(Reader), &value} {
		for range 2 {
			stands(t, "no reader", r, 0, api.ErrNil)
			is(t, "End", r.End(), api.ErrNil)
			zeros(t, "no reader", r)
			for _, a := range asks() {
				a.does(r)
			}
		}
	}
}

// R4: a reader says of bytes what they were when it was made, and leaves them and their room as they are.
func TestReaderKeepsNoBytes(t *testing.T) {
	b, all := roomy([]byte{5, 0xac, 2, 3, 'a', 'b', 'c', 0x34, 0x12, 9, 9}, 16)
	before := slices.Clone(all)
	read := func(r *Reader, meanwhile func()) {
		meanwhile()
		is(t, "Num", r.Num(), 5)
		meanwhile()
		is(t, "Int", r.Int(), 150)
		meanwhile()
		is(t, "Text", r.Text(3), "abc")
		meanwhile()
		is(t, "Fixed", r.Fixed(2), 0x1234)
		meanwhile()
		same(t, "Take", r.Take(2), []byte{9, 9})
		is(t, "End", r.End(), api.OK)
	}
	read(NewReader(b), func() {})
	same(t, "the bytes behind the calls", all, before)
	r := NewReader(b)
	read(r, func() { overwrite(all) })
}

// R4: what Take answers, and its room, is nobody else's: not the reader's, not that of the bytes handed in, not another answer's.
func TestTakeNewMemory(t *testing.T) {
	b := []byte{1, 2, 3, 4, 5, 6, 7, 8}
	r := NewReader(b)
	first := r.Take(3)
	overwrite(first)
	second := r.Take(3)
	same(t, "the second", second, []byte{4, 5, 6})
	_ = append(r.Take(0), 99)
	overwrite(second)
	is(t, "Num behind them", r.Num(), 7)
	same(t, "what was handed in", b, []byte{1, 2, 3, 4, 5, 6, 7, 8})
	same(t, "the last", r.Take(1), []byte{8})
	all := NewReader(b)
	_ = append(all.Take(2), 77, 77)
	same(t, "behind what was put to an answer", all.Take(6), []byte{3, 4, 5, 6, 7, 8})
}

// item is something that is put and read back: it tells whether what was read is what was put.
type item struct {
	name string
	put  func(b []byte) []byte
	back func(r *Reader) bool
}

func items() []item {
	var l []item
	for _, n := range nums() {
		l = append(l, item{fmt.Sprint("number ", n), func(b []byte) []byte { return Put(b, n) }, func(r *Reader) bool { return r.Num() == n }})
		for width := 1; width <= 8; width++ {
			low := n << (64 - 8*width) >> (64 - 8*width)
			l = append(l, item{fmt.Sprintf("%x at width %d", n, width), func(b []byte) []byte { return PutFixed(b, n, width) }, func(r *Reader) bool { return r.Fixed(width) == low }})
		}
	}
	for _, n := range ints() {
		l = append(l, item{fmt.Sprint("whole number ", n), func(b []byte) []byte { return PutInt(b, n) }, func(r *Reader) bool { return r.Int() == n }})
	}
	for _, s := range texts() {
		l = append(l, item{fmt.Sprint("text of ", len(s)), func(b []byte) []byte { return PutText(b, s) }, func(r *Reader) bool { return r.Text(len(s)) == s }})
	}
	return l
}

// P4.4: each, with others ahead and behind.
func TestBackWithin(t *testing.T) {
	for _, x := range items() {
		for _, ahead := range aheads() {
			for _, behind := range aheads() {
				r := NewReader(append(x.put(ahead), behind...))
				same(t, "what stands ahead", r.Take(len(ahead)), ahead)
				if !x.back(r) || r.Err() != api.OK {
					t.Errorf("%s is not read back, between % x and % x", x.name, ahead, behind)
				}
				same(t, "what stands behind", r.Take(len(behind)), behind)
				is(t, "End", r.End(), api.OK)
			}
		}
	}
}

// P4.4: all, one behind the other, there and back.
func TestBackInARow(t *testing.T) {
	l := items()
	for range 2 {
		slices.Reverse(l)
		var b []byte
		for _, x := range l {
			b = x.put(b)
		}
		r := NewReader(b)
		for _, x := range l {
			if !x.back(r) || r.Err() != api.OK {
				t.Fatalf("%s is not read back", x.name)
			}
		}
		is(t, "End", r.End(), api.OK)
	}
}

// P4.4: of all rows of one and two bytes, of such with bytes ahead, and of long ones, what was read is put as just the bytes that were read.
func TestNoSecondKindOfBytes(t *testing.T) {
	l := rows()
	for n := range 1 << 16 {
		low, high := byte(n), byte(n>>8)
		l = append(l, []byte{low}, []byte{low, high}, []byte{0x80, low, high}, []byte{0xc3, 0x80, low, high})
	}
	for _, b := range l {
		r, s := NewReader(b), NewReader(b)
		n, i := r.Num(), s.Int()
		if r.Err() != s.Err() || r.Left() != s.Left() {
			t.Fatalf("of % x a number and a whole number are unlike", b)
		}
		if r.Err() != api.OK {
			continue
		}
		read := b[:len(b)-r.Left()]
		if !slices.Equal(Put(nil, n), read) || !slices.Equal(PutInt(nil, i), read) {
			t.Fatalf("of % x %d and %d are read, which are put as % x and % x", b, n, i, Put(nil, n), PutInt(nil, i))
		}
	}
}

// P4.4: rows of numbers, cut anywhere, break the reader, at the latest at the end of what was put.
func TestCut(t *testing.T) {
	for _, l := range [][]uint64{{0}, {127, 128}, {1 << 63, 0, 300}, {5, most, 16384, 16383, 1}, nums()} {
		var b []byte
		for _, n := range l {
			b = Put(b, n)
		}
		for cut := range b {
			r := NewReader(b[:cut])
			for _, n := range l {
				if got := r.Num(); r.Err() == api.OK && got != n {
					t.Fatalf("cut at %d: %d, want %d", cut, got, n)
				}
			}
			is(t, "Err of what is cut", r.Err(), api.ErrForm)
			is(t, "End of what is cut", r.End(), api.ErrForm)
		}
	}
}

// P4.4: texts and numbers of a width, cut anywhere.
func TestCutOthers(t *testing.T) {
	for _, x := range items() {
		b := x.put(nil)
		if len(b) > 1000 {
			continue
		}
		for cut := range b {
			r := NewReader(b[:cut])
			x.back(r)
			stands(t, x.name+", cut", r, cut, api.ErrForm)
		}
	}
}

// R6: two readers of the same bytes do not get into each other's way.
func TestTwoReaders(t *testing.T) {
	b := []byte{1, 2, 3}
	r, s := NewReader(b), NewReader(b)
	is(t, "the first", r.Num(), 1)
	is(t, "the first", r.Num(), 2)
	is(t, "the second", s.Num(), 1)
	r.Take(-1)
	stands(t, "the first", r, 1, api.ErrForm)
	stands(t, "the second", s, 2, api.OK)
}

// The chapter's examples.
func TestExamplesOfReaders(t *testing.T) {
	for _, b := range [][]byte{{0x80, 0}, {0x80}, {}, {0xff, 0xff, 0xff, 0xff, 0xff, 0xff, 0xff, 0xff, 0xff, 2}} {
		r := NewReader(b)
		is(t, "Num", r.Num(), 0)
		is(t, "Err", r.Err(), api.ErrForm)
	}
	ab := []byte{2, 0x61, 0x62}
	is(t, "Text(2)", NewReader(ab).Text(2), "ab")
	for _, most := range []int{1, -1} {
		r := NewReader(ab)
		is(t, "Text", r.Text(most), "")
		is(t, "Err", r.Err(), api.ErrForm)
	}
	r := NewReader([]byte{5, 6})
	is(t, "Num", r.Num(), 5)
	is(t, "End", r.End(), api.ErrForm)
	is(t, "Num", r.Num(), 0)
}
