package freemap

import (
	"slices"
	"strconv"
	"strings"
	"testing"

	"bedrock/api"
)

const ones = "\xff"

func zeros(n int) string { return strings.Repeat("\x00", n) }

// byHand are the sums of the homes below, worked out elsewhere, bit by bit.
var byHand = []string{
	"\xd5\x9d\x47\x41", "\x66\xbd\x68\x98", "\x67\xbc\x5a\x7d", "\xfd\xb1\xa4\xf2", "\x0a\x32\x7e\x98",
	"\xd2\x2c\x53\x98", "\xde\x17\x2d\x45", "\xb2\x98\x3b\x45", "\x7c\xe2\xb3\x3a", "\xd5\xa5\xff\x7a",
}

// behind is what stands behind a home's bits.
func behind(k byte, sum string) string { return string([]byte{k, 0, 0, 0}) + sum + zeros(4) }

// P22.4: homes that are laid out by hand, with their sums as numbers.
func TestHomesByHand(t *testing.T) {
	cases := []struct {
		name string
		b    both
		want []string
	}{
		{"256", fresh(t, 256), []string{strings.Repeat(ones, 32) + zeros(468) + behind(0, byHand[0])}},
		{"256, all taken", none(t, 256), []string{zeros(500) + behind(0, byHand[1])}},
		{"256, 0 and 9 free", pieces(t, 256, func(i int) bool { return i == 0 || i == 9 }), []string{"\x01\x02" + zeros(498) + behind(0, byHand[2])}},
		{"257", fresh(t, 257), []string{strings.Repeat(ones, 32) + "\x01" + zeros(467) + behind(0, byHand[3])}},
		{"4000", fresh(t, 4000), []string{strings.Repeat(ones, 500) + behind(0, byHand[4])}},
		{"4001", fresh(t, 4001), []string{strings.Repeat(ones, 500) + behind(0, byHand[4]), "\x01" + zeros(499) + behind(1, byHand[5])}},
		{"4001, 4000 taken", pieces(t, 4001, func(i int) bool { return i < 4000 }), []string{strings.Repeat(ones, 500) + behind(0, byHand[4]), zeros(500) + behind(1, byHand[6])}},
		{"8000", fresh(t, 8000), []string{strings.Repeat(ones, 500) + behind(0, byHand[4]), strings.Repeat(ones, 500) + behind(1, byHand[7])}},
		{"8000, one in three free", pieces(t, 8000, func(i int) bool { return i%3 == 0 }), []string{strings.Repeat("\x49\x92\x24", 167)[:500] + behind(0, byHand[8]), strings.Repeat("\x24\x49\x92", 167)[:500] + behind(1, byHand[9])}},
	}
	for _, x := range cases {
		got := x.b.m.Homes()
		if !slices.Equal(got, x.want) {
			t.Errorf("%s: Homes() = %x, not %x", x.name, got, x.want)
		}
		m, e := Of(x.b.m.Len(), x.want)
		if e != api.OK {
			t.Fatalf("%s: Of = %d", x.name, e)
		}
		both{m, x.b.free}.alikeHomes(t, x.name)
	}
}

// none is a map of whose sectors none is free.
func none(t testing.TB, n int) both {
	return pieces(t, n, func(int) bool { return false })
}

// P22.4: the homes of the greatest map.
func TestHomesOfTheGreatest(t *testing.T) {
	b := fresh(t, 131072)
	homes := b.m.Homes()
	if len(homes) != 33 {
		t.Fatalf("%d homes", len(homes))
	}
	for k, home := range homes[:32] {
		if want := signed(strings.Repeat(ones, 500) + string([]byte{byte(k), 0, 0, 0})); home != want {
			t.Errorf("the home %d is %x", k, home)
		}
	}
	// 131072 less 32 times 4000 are 3072, which are 384 bytes.
	if want := signed(strings.Repeat(ones, 384) + zeros(116) + "\x20\x00\x00\x00"); homes[32] != want {
		t.Errorf("the home 32 is %x", homes[32])
	}
	b.alikeHomes(t, "New")
	for i, home := range none(t, 131072).m.Homes() {
		if want := signed(zeros(500) + string([]byte{byte(i), 0, 0, 0})); home != want {
			t.Errorf("all taken: the home %d is %x", i, home)
		}
	}
}

// P22.4, P22.5: homes, and the maps of them, of many shapes and sizes.
func TestHomesAndOf(t *testing.T) {
	for _, n := range sizes {
		fresh(t, n).alikeHomes(t, "New")
		none(t, n).alikeHomes(t, "Keep of all")
		for _, shape := range shapes {
			if n < 20000 {
				pieces(t, n, func(i int) bool { return shape(n, i) }).alikeHomes(t, "pieces")
			}
		}
	}
}

// P22.4: each sector that is the only free one, and the only taken one, by its own bit.
func TestHomesOfEachSector(t *testing.T) {
	for _, n := range []int{256, 261} {
		full, empty := fresh(t, n), none(t, n)
		for i := range n {
			full.keep(t, i)
			full.alikeHomes(t, "Keep of one")
			full.give(t, i)
			empty.give(t, i)
			empty.alikeHomes(t, "Give of one")
			empty.keep(t, i)
		}
	}
	b := none(t, 8001)
	for _, i := range []int{0, 3967, 3968, 3999, 4000, 4001, 4031, 4032, 7935, 7936, 7999, 8000} {
		b.give(t, i)
		home := b.m.Homes()[i/4000]
		if got := home[i%4000/8]; got != 1<<(i%8) {
			t.Errorf("just %d is free: its byte is %x", i, got)
		}
		b.alikeHomes(t, "Give of one of 8001")
		b.keep(t, i)
	}
}

// refused tells whether Of answers the error, and leaves the homes as they are.
func refused(t *testing.T, name string, n int, homes []string, want api.Errno) {
	t.Helper()
	same := slices.Clone(homes)
	if m, e := Of(n, homes); m != nil || e != want {
		t.Errorf("%s: Of(%d, %d homes) = %v, %d, not %d", name, n, len(homes), m != nil, e, want)
	}
	if !slices.Equal(homes, same) {
		t.Errorf("%s: Of changed its homes", name)
	}
}

// P22.4: what is no number of sectors, ahead of what are no homes.
func TestOfNoMap(t *testing.T) {
	homes := fresh(t, 256).m.Homes()
	for _, n := range noSizes() {
		refused(t, "no map", n, homes, api.ErrArg)
		refused(t, "no map, no homes", n, nil, api.ErrArg)
		refused(t, "no map, empty homes", n, []string{"", "x"}, api.ErrArg)
	}
}

// P22.4: too few homes, too many, others, in another order.
func TestOfOtherHomes(t *testing.T) {
	for _, n := range []int{256, 4000, 4001, 8000, 12001, 131072} {
		b := pieces(t, n, func(i int) bool { return i*i%7 < 3 })
		homes, size := b.m.Homes(), Size(n)
		blank := zeros(512)
		refused(t, "none", n, nil, api.ErrForm)
		refused(t, "an empty list", n, []string{}, api.ErrForm)
		for k := range size {
			refused(t, "one too few", n, slices.Delete(slices.Clone(homes), k, k+1), api.ErrForm)
			refused(t, "one twice", n, slices.Insert(slices.Clone(homes), k, homes[k]), api.ErrForm)
			refused(t, "a blank one more", n, slices.Insert(slices.Clone(homes), k, blank), api.ErrForm)
			refused(t, "an empty one more", n, slices.Insert(slices.Clone(homes), k, ""), api.ErrForm)
			for i := range k {
				l := slices.Clone(homes)
				l[i], l[k] = l[k], l[i]
				refused(t, "two exchanged", n, l, api.ErrForm)
				l = slices.Clone(homes)
				l[i] = l[k]
				refused(t, "one in another's place", n, l, api.ErrForm)
			}
		}
		refused(t, "a blank one behind", n, append(slices.Clone(homes), blank), api.ErrForm)
		refused(t, "an empty one behind", n, append(slices.Clone(homes), ""), api.ErrForm)
		refused(t, "the next one behind", n, append(slices.Clone(homes), signed(zeros(500)+fixed(uint32(size)))), api.ErrForm)
		refused(t, "all twice", n, append(slices.Clone(homes), homes...), api.ErrForm)
		if size > 1 {
			refused(t, "all in one text", n, []string{strings.Join(homes, "")}, api.ErrForm)
			back := slices.Clone(homes)
			slices.Reverse(back)
			refused(t, "back to front", n, back, api.ErrForm)
		}
		b.alikeHomes(t, "Of of others")
	}
}

// P22.4: each of the homes in another form.
func TestOfOneWrongHome(t *testing.T) {
	for _, n := range []int{256, 4000, 4001, 8000, 12001} {
		homes := pieces(t, n, func(i int) bool { return i%5 != 2 }).m.Homes()
		for k, home := range homes {
			for name, other := range wrongHomes(home, k) {
				l := slices.Clone(homes)
				l[k] = other
				refused(t, strconv.Itoa(k)+": "+name, n, l, api.ErrForm)
			}
		}
	}
}

// wrongHomes are forms of a home that are none.
func wrongHomes(home string, k int) map[string]string {
	head, sum := home[:504], home[504:508]
	bits := home[:500]
	other := func(k uint32) string { return signed(bits + fixed(k)) }
	l := map[string]string{
		"nothing":                   "",
		"one byte":                  home[:1],
		"499 bytes":                 home[:499],
		"500 bytes":                 home[:500],
		"504 bytes":                 home[:504],
		"508 bytes":                 home[:508],
		"511 bytes":                 home[:511],
		"513 bytes":                 home + "\x00",
		"the first byte cut off":    home[1:],
		"a byte 0 ahead":            "\x00" + home,
		"a byte 0 ahead, none more": ("\x00" + home)[:512],
		"1024 bytes":                home + zeros(512),
		"bytes 0":                   zeros(512),
		"bytes 255":                 strings.Repeat(ones, 512),
		"the next number":           other(uint32(k) + 1),
		"the number before":         other(uint32(k) - 1),
		"a number of 256":           other(uint32(k) + 256),
		"a number of 2^16":          other(uint32(k) + 1<<16),
		"a number of 2^24":          other(uint32(k) + 1<<24),
		"a number of 2^31":          other(uint32(k) + 1<<31),
		"the highest first":         signed(bits + string([]byte{0, 0, 0, byte(k) + 1})),
		"the sum 0":                 head + zeros(4) + zeros(4),
		"the sum turned round":      head + string([]byte{sum[3], sum[2], sum[1], sum[0]}) + zeros(4),
		"the sum of the bits":       head + signed(bits)[500:504] + zeros(4),
		"the sum of 500, then 504":  bits + signed(bits)[500:504] + fixed(uint32(k)) + zeros(4),
		"the sum behind":            head + zeros(4) + sum,
		"the sum twice":             head + sum + sum,
	}
	for i := range 4 {
		for _, x := range []byte{1, 128, 255} {
			b := []byte(home)
			b[508+i] = x
			l["a byte behind it "+strconv.Itoa(i)+" "+strconv.Itoa(int(x))] = string(b)
		}
	}
	return l
}

// P22.4, P22.5: each single bit of each home turned.
func TestOfTurnedBit(t *testing.T) {
	for _, n := range []int{256, 300, 4001} {
		homes := pieces(t, n, func(i int) bool { return i%9 < 5 }).m.Homes()
		for k, home := range homes {
			for i := range 512 * 8 {
				b := []byte(home)
				b[i/8] ^= 1 << (i % 8)
				l := slices.Clone(homes)
				l[k] = string(b)
				if m, e := Of(n, l); m != nil || e != api.ErrForm {
					t.Fatalf("%d: the home %d with the bit %d turned: Of = %v, %d", n, k, i, m != nil, e)
				}
			}
		}
	}
	homes := fresh(t, 131072).m.Homes()
	for k, home := range homes {
		for _, i := range []int{0, 7, 3999, 4000, 4031, 4032, 4063, 4064, 4095} {
			b := []byte(home)
			b[i/8] ^= 1 << (i % 8)
			l := slices.Clone(homes)
			l[k] = string(b)
			refused(t, "a bit of a home of many", 131072, l, api.ErrForm)
		}
	}
}

// P22.4: a bit of a sector that there is not, with the sum that goes with it.
func TestOfBitBehindTheLast(t *testing.T) {
	for _, n := range []int{256, 257, 300, 319, 320, 321, 3999, 4001, 7999, 8001, 131071, 131072} {
		homes := fresh(t, n).m.Homes()
		last := len(homes) - 1
		first, end := n-last*4000, 4000
		for i := first; i < end; i++ {
			if i > first+130 && i < end-70 && i%37 != 0 {
				continue
			}
			b := []byte(homes[last][:504])
			b[i/8] |= 1 << (i % 8)
			l := slices.Clone(homes)
			l[last] = signed(string(b))
			if m, e := Of(n, l); m != nil || e != api.ErrForm {
				t.Fatalf("%d: a bit of the sector %d: Of = %v, %d", n, last*4000+i, m != nil, e)
			}
		}
	}
}

// P22.4: a bit of a sector that there is, turned with the sum that goes with it, is another map.
func TestOfBitOfASector(t *testing.T) {
	for _, n := range []int{257, 4001} {
		b := pieces(t, n, func(i int) bool { return i%2 == 0 })
		homes := b.m.Homes()
		for i := 0; i < n; i += 1 + n/300 {
			head := []byte(homes[i/4000][:504])
			head[i%4000/8] ^= 1 << (i % 8)
			l := slices.Clone(homes)
			l[i/4000] = signed(string(head))
			m, e := Of(n, l)
			if e != api.OK {
				t.Fatalf("%d: %d turned: Of = %d", n, i, e)
			}
			free := slices.Clone(b.free)
			free[i] = !free[i]
			both{m, free}.alike(t, "Of of another map")
		}
	}
}

// P22.4: the homes of a map of another number of sectors.
func TestOfAnotherSize(t *testing.T) {
	for _, n := range sizes {
		homes := fresh(t, n).m.Homes()
		for _, other := range sizes {
			if other < n || Size(other) != Size(n) {
				refused(t, "a map of "+strconv.Itoa(n), other, homes, api.ErrForm)
			}
		}
	}
	// A greater map that has no free sector behind the lesser one's last has the same homes.
	homes := pieces(t, 400, func(i int) bool { return i < 256 }).m.Homes()
	m, e := Of(256, homes)
	if e != api.OK {
		t.Fatalf("Of(256, the homes of 400) = %d", e)
	}
	both{m, fresh(t, 256).free}.alikeHomes(t, "Of")
}

// P22.4: what is done to the one does nothing to the other.
func TestCopy(t *testing.T) {
	for _, n := range []int{256, 4001, 131072} {
		b := pieces(t, n, func(i int) bool { return i%7 != 3 })
		c := both{b.m.Copy(), slices.Clone(b.free)}
		c.alikeHomes(t, "Copy")
		d := both{c.m.Copy(), slices.Clone(c.free)}
		b.take(t, 100)
		b.give(t, 3)
		c.keep(t, n-1, 0)
		d.give(t, 3, 10, 17)
		d.take(t, 9)
		b.alikeHomes(t, "Take and Give")
		c.alikeHomes(t, "Keep, and Take of the first one")
		d.alikeHomes(t, "Give of the third one")
		b.take(t, b.m.Free())
		c.alikeHomes(t, "Take of all of the first one")
		c.give(t, c.takenOnes()...)
		b.alikeHomes(t, "Give of all of the second one")
		d.alikeHomes(t, "Give of all of the second one")
	}
}

// P22.4, R4: homes that are told anew are memory of their own, and a map that was made of homes does not keep their list.
func TestOfKeepsNothing(t *testing.T) {
	b := pieces(t, 8001, func(i int) bool { return i%3 == 1 })
	homes := b.m.Homes()
	kept := slices.Clone(homes)
	m, e := Of(8001, homes)
	if e != api.OK {
		t.Fatalf("Of = %d", e)
	}
	homes[0], homes[2] = "", zeros(512)
	both{m, slices.Clone(b.free)}.alikeHomes(t, "a change of the list")
	of := both{m, slices.Clone(b.free)}
	of.take(t, 200)
	b.alikeHomes(t, "Take of the map of its homes")
	of.alikeHomes(t, "Take")
	if again := b.m.Homes(); !slices.Equal(again, kept) {
		t.Errorf("Homes() told anew are others")
	}
}
