package chain

import (
	"math"
	"slices"
	"strings"
	"testing"

	"bedrock/api"
	"bedrock/sector"
)

// P23.3: what Put put, whatever the order of the sectors; Get writes nothing.
func TestGet(t *testing.T) {
	r := drawer(3)
	for _, n := range lengths() {
		for _, at := range rows(300, n) {
			d := made(t, 300)
			b := some(r, n)
			puts(t, d, at, b)
			for range 2 {
				stands(t, "Put", d, at, b)
			}
		}
	}
}

// P23.3: of each sector behind the first one, what is left of a chain is one, too: of the bytes from there on, and of no other number of them.
func TestGetFromWithin(t *testing.T) {
	r := drawer(4)
	for _, n := range []int{501, 1000, 1001, 5000, 65536} {
		d := made(t, 256)
		at, b := someSectors(r, 256, n), some(r, n)
		puts(t, d, at, b)
		for k := range at {
			stands(t, "what is left", d, at[k:], b[500*k:])
			for _, other := range []int{n, n - 500*k - 1, n - 500*k + 1, n - 500*k - 500, n - 500*k + 500, 500, 0, 65536} {
				if other >= 0 && other <= 65536 && other != n-500*k {
					falls(t, "another number of bytes", d, at[k], other)
				}
			}
		}
		for i := range 256 {
			if !slices.Contains(at, i) {
				falls(t, "a sector that is none of the chain's", d, i, n)
				falls(t, "a sector that is none of the chain's", d, i, 0)
			}
		}
	}
}

// P23.3, P23.4: of other numbers of bytes there is no chain.
func TestGetOfOtherNumbers(t *testing.T) {
	r := drawer(5)
	for _, n := range []int{0, 1, 500, 501, 1000, 1001, 65536} {
		d := made(t, 256)
		at, b := someSectors(r, 256, n), some(r, n)
		puts(t, d, at, b)
		for other := range 65537 {
			isNear := max(other-n, n-other) < 3000
			if n > 0 && !isNear && other%31 != 0 {
				continue
			}
			if _, _, e := Get(d, at[0], other); (e == api.OK) != (other == n) || e != api.OK && e != api.ErrDisk {
				t.Fatalf("of %d bytes Get(%d, %d) = %d", n, at[0], other, e)
			}
		}
	}
}

// P23.3: sectors that were laid out by hand, not by Put, as numbers.
func TestGetByHand(t *testing.T) {
	as := strings.Repeat("a", 500)
	d := made(t, 256)
	write(t, d, 20, "\x0a\x00\x00\x00\xe9\x03\x00\x00"+as+"\x00\x3e\xb4\x82")
	write(t, d, 9, "\xc9\x00\x00\x00\xf5\x01\x00\x00"+strings.Repeat("b", 500)+"\x4f\x46\x50\xa8")
	write(t, d, 200, "\x00\x00\x00\x00\x01\x00\x00\x00c"+zeros(499)+"\x05\xde\x92\x36")
	write(t, d, 0, zeros(508)+"\xc3\xa9\x57\xec")
	write(t, d, 1, "\x00\x00\x00\x00\xf4\x01\x00\x00"+as+"\xef\xb2\x5d\x82")
	stands(t, "1001 bytes", d, []int{20, 9, 200}, []byte(as+strings.Repeat("b", 500)+"c"))
	stands(t, "501 bytes", d, []int{9, 200}, []byte(strings.Repeat("b", 500)+"c"))
	stands(t, "1 byte", d, []int{200}, []byte("c"))
	stands(t, "no bytes", d, []int{0}, nil)
	stands(t, "500 bytes", d, []int{1}, []byte(as))
	falls(t, "a new sector", d, 2, 0)
	for i, n := range map[int]int{20: 1000, 9: 1001, 200: 0, 0: 1, 1: 501} {
		falls(t, "another number of bytes", d, i, n)
	}
}

// nums is what the two numbers of a sector are.
type nums struct{ next, left uint32 }

// chained is a disk of 256 sectors with the chain of n bytes 120 at 20, 9, 255, .. of which the k-th sector has these numbers, and that part, and the sum that goes with them.
func chained(t *testing.T, n, k int, with nums, part string) *sector.Disk {
	t.Helper()
	d := made(t, 256)
	puts(t, d, chainAt(n), xs(n))
	write(t, d, chainAt(n)[k], sealed(with.next, with.left, part))
	return d
}

// chainAt are as many sectors as a chain of n bytes has.
func chainAt(n int) []int { return []int{20, 9, 255, 0, 31}[:countOf(n)] }

func xs(n int) []byte { return []byte(strings.Repeat("x", n)) }

// right are the numbers and the part that the k-th sector of the chain of n bytes 120 must have.
func right(n, k int) (nums, string) {
	at := chainAt(n)
	w := nums{0, uint32(n - 500*k)}
	if k+1 < len(at) {
		w.next = uint32(at[k+1] + 1)
	}
	return w, strings.Repeat("x", min(500, n-500*k))
}

// shortOnes are chains of one sector to five, whose last one is empty, full, or neither.
var shortOnes = []int{0, 1, 499, 500, 501, 1000, 1001, 1499, 1500, 2001, 2500}

// P23.3: the chains of the tests below stand, as they are laid out.
func TestChained(t *testing.T) {
	for _, n := range shortOnes {
		for k := range chainAt(n) {
			with, part := right(n, k)
			stands(t, "the same again", chained(t, n, k, with, part), chainAt(n), xs(n))
		}
	}
}

// P23.3: another sum than that of the first 508 bytes.
func TestOtherSum(t *testing.T) {
	for _, n := range []int{0, 1, 500, 1001} {
		d := made(t, 256)
		puts(t, d, chainAt(n), xs(n))
		for _, i := range chainAt(n) {
			was, _ := d.Read(i)
			body, sum := was[:508], []byte(was[508:])
			for _, other := range []string{
				zeros(4), "\xff\xff\xff\xff",
				string([]byte{sum[3], sum[2], sum[1], sum[0]}),
				string([]byte{^sum[0], ^sum[1], ^sum[2], ^sum[3]}),
				sumOf(body[4:]), sumOf(body[8:]), sumOf(body[:507]), sumOf(was), sumOf(body + zeros(4)), sumOf(strings.TrimRight(body, "\x00") + "\x01"), sumOf(""), sumOf(body[:8]),
			} {
				write(t, d, i, body+other)
				falls(t, "another sum", d, 20, n)
			}
			for k := range 4 {
				for x := range 256 {
					other := []byte(was)
					other[508+k] = byte(x)
					write(t, d, i, string(other))
					if is := gets(t, d, 20, n); is != (byte(x) == was[508+k]) {
						t.Fatalf("of %d bytes, the byte %d of the sum of %d being %d: %t", n, k, i, x, is)
					}
				}
			}
			write(t, d, i, was)
			stands(t, "the sum again", d, chainAt(n), xs(n))
			d.Mark()
		}
	}
}

// P23.3: a count of bytes that is not what there is from this sector on, each with the sum that goes with it.
func TestOtherCount(t *testing.T) {
	for _, n := range shortOnes {
		for k := range chainAt(n) {
			with, part := right(n, k)
			left := with.left
			for _, other := range []uint32{0, 1, 499, 500, 501, left - 1, left + 1, left - 500, left + 500, left + 256, left + 1<<8, left + 1<<16, left + 1<<24, left + 1<<31, uint32(len(part)), uint32(n), uint32(n) + 1, 65536, 65537, 1<<31 - 1, 1 << 31, 1<<32 - 1, 1<<32 - 500, left<<24 | left>>8<<16} {
				d := chained(t, n, k, nums{with.next, other}, part)
				if is := gets(t, d, 20, n); is != (other == left) {
					t.Fatalf("of %d bytes, the count of the sector %d being %d: %t", n, k, other, is)
				}
				if other != left && other <= 65536 {
					gets(t, d, 20, int(other))
				}
			}
		}
	}
}

// P23.3: a byte behind the last part that is not 0, with the sum that goes with it.
func TestByteBehind(t *testing.T) {
	for _, n := range []int{0, 1, 250, 498, 499, 501, 1499} {
		last := len(chainAt(n)) - 1
		with, part := right(n, last)
		d := chained(t, n, last, with, part)
		for i := len(part); i < 500; i++ {
			for _, x := range []string{"\x01", "\x80", "\xff", "x"} {
				write(t, d, chainAt(n)[last], sealed(with.next, with.left, part+zeros(i-len(part))+x))
				falls(t, "a byte behind", d, 20, n)
			}
		}
		write(t, d, chainAt(n)[last], sealed(with.next, with.left, part+strings.Repeat("x", 500-len(part))))
		falls(t, "bytes behind", d, 20, n)
		write(t, d, chainAt(n)[last], sealed(with.next, with.left, part))
		stands(t, "bytes 0 behind", d, chainAt(n), xs(n))
	}
	// Within a part bytes 0 are as good as others.
	for _, n := range shortOnes {
		for k := range chainAt(n) {
			with, part := right(n, k)
			d := chained(t, n, k, with, zeros(len(part)))
			b := xs(n)
			clear(b[500*k:][:len(part)])
			stands(t, "bytes 0 within", d, chainAt(n), b)
		}
	}
}

// P23.3: a sector that is there twice: itself, the head, one in the middle; with whatever counts.
func TestTwice(t *testing.T) {
	for _, n := range shortOnes {
		at := chainAt(n)
		for k := range at {
			with, part := right(n, k)
			for _, back := range at[:k+1] {
				for _, left := range []uint32{with.left, with.left + 500, uint32(n), 501, 500} {
					d := chained(t, n, k, nums{uint32(back + 1), left}, part)
					falls(t, "a sector twice", d, 20, n)
					for more := n; more <= n+3000; more += 500 {
						falls(t, "a sector twice, and more bytes", d, 20, more)
					}
				}
			}
		}
	}
	// A ring of sectors that are all alike, of each length up to a chain's.
	for _, size := range []int{1, 2, 3, 131, 132} {
		for _, left := range []uint32{0, 500, 501, 1000, 1001, 65536} {
			d := made(t, 256)
			for i := range size {
				write(t, d, i, sealed(uint32((i+1)%size+1), left, strings.Repeat("x", 500)))
			}
			for _, n := range []int{0, 500, 501, 1000, 1001, size * 500, 65536} {
				falls(t, "a ring", d, 0, min(n, 65536))
			}
		}
	}
}

// P23.3: a last sector whose next is not 0, wherever that leads to: also to another chain, or to one without bytes.
func TestLastWithANext(t *testing.T) {
	for _, n := range shortOnes {
		last := len(chainAt(n)) - 1
		with, part := right(n, last)
		for next := uint32(1); next <= 300; next++ {
			d := chained(t, n, last, nums{next, with.left}, part)
			falls(t, "a last one with a next", d, 20, n)
		}
		for _, next := range []uint32{1 << 8, 1 << 16, 1 << 17, 1<<17 + 1, 1 << 24, 1<<31 - 1, 1 << 31, 1<<32 - 1} {
			d := chained(t, n, last, nums{next, with.left}, part)
			falls(t, "a last one with a next that is far", d, 20, n)
		}
		for _, b := range []string{"", "y", strings.Repeat("y", 500)} {
			d := chained(t, n, last, nums{101, with.left}, part)
			puts(t, d, []int{100}, []byte(b))
			falls(t, "a last one ahead of another chain", d, 20, n)
			falls(t, "a last one ahead of another chain, both", d, 20, n+len(b))
			stands(t, "the other chain", d, []int{100}, []byte(b))
		}
	}
}

// P23.3: a sector that is not the last one, whose next is 0.
func TestEndTooEarly(t *testing.T) {
	for _, n := range shortOnes {
		for k := range len(chainAt(n)) - 1 {
			with, part := right(n, k)
			d := chained(t, n, k, nums{0, with.left}, part)
			falls(t, "an end too early", d, 20, n)
			falls(t, "an end too early, the bytes until then", d, 20, 500*k+500)
			with.left = 500
			falls(t, "an end too early, with its count", chained(t, n, k, nums{0, 500}, part), 20, n)
		}
	}
}

// P23.3: a next that is no sector of the disk, or one that is none of the chain's.
func TestOtherNext(t *testing.T) {
	for _, n := range shortOnes {
		for k := range len(chainAt(n)) - 1 {
			with, part := right(n, k)
			for next := range uint32(300) {
				d := chained(t, n, k, nums{next, with.left}, part)
				if is := gets(t, d, 20, n); is != (next == with.next) {
					t.Fatalf("of %d bytes, next of the sector %d being %d: %t", n, k, next, is)
				}
			}
			for _, next := range []uint32{512, 1 << 16, 1<<16 + with.next, 1 << 17, 1<<17 + 1, 1<<17 + 2, 1<<24 + with.next, 1<<31 - 1, 1 << 31, 1<<31 + 1, 1<<31 + with.next, 1<<32 - 1, 1<<32 - 2, 1<<32 - 256} {
				falls(t, "a next that is far", chained(t, n, k, nums{next, with.left}, part), 20, n)
			}
		}
	}
}

// P23.3: the next one's number without the 1, though what stands there goes on as it must.
func TestNextWithoutTheOne(t *testing.T) {
	for _, next := range []uint32{8, 9, 10, 11} {
		d := made(t, 256)
		write(t, d, 20, sealed(next, 501, strings.Repeat("x", 500)))
		for i := 7; i < 13; i++ {
			write(t, d, i, sealed(0, 1, string([]byte{byte(i)})))
		}
		stands(t, "one of many", d, []int{20, int(next) - 1}, append(xs(500), byte(next)-1))
	}
}

// P23.3: one of a chain's sectors that is as another one of it, or of another chain.
func TestMixed(t *testing.T) {
	d := made(t, 256)
	one := []int{20, 9, 50, 0, 31}
	puts(t, d, one, xs(2500))
	puts(t, d, []int{120, 109, 150, 100, 131}, []byte(strings.Repeat("y", 2500)))
	was := map[int]string{}
	for i := range 256 {
		was[i], _ = d.Read(i)
	}
	for _, i := range one {
		for from := range 256 {
			write(t, d, i, was[from])
			// As far along as it, the other chain's goes on into what is left of that one.
			if is := gets(t, d, 20, 2500); is != (from == i || from == i+100) {
				t.Errorf("the sector %d being as %d: %t", i, from, is)
			}
			gets(t, d, 120, 2500)
		}
		write(t, d, i, was[i])
		stands(t, "as it was", d, one, xs(2500))
	}
	write(t, d, 9, was[109])
	stands(t, "two chains", d, []int{20, 9, 150, 100, 131}, slices.Concat(xs(500), []byte(strings.Repeat("y", 2000))))
	stands(t, "two chains", d, []int{120, 109, 150, 100, 131}, []byte(strings.Repeat("y", 2500)))
}

// P23.3: each error, and which one comes first; beside it nothing, and nothing is written.
func TestGetRefuses(t *testing.T) {
	var zero sector.Disk
	heads := []int{20, -1, -2, -20, -256, 256, 257, 1 << 17, 1<<32 + 20, math.MinInt, math.MinInt + 20, math.MinInt32, math.MaxInt32, math.MaxInt, math.MaxInt - 1}
	numbers := []int{1001, 1000, 0, 65536, 65537, 65538, 1 << 17, 1<<32 + 1001, -1, -2, -500, -1001, math.MinInt, math.MinInt + 1001, math.MinInt32, math.MaxInt32, math.MaxInt, math.MaxInt - 499}
	d := made(t, 256)
	puts(t, d, chainAt(1001), xs(1001))
	for i, x := range []*sector.Disk{d, nil, {}, &zero, new(sector.Disk)} {
		for j, head := range heads {
			for k, n := range numbers {
				want := api.OK
				switch {
				case i > 0:
					want = api.ErrNil
				case j > 0 || k > 3:
					want = api.ErrArg
				case k > 0:
					want = api.ErrDisk
				}
				b, at, e := Get(x, head, n)
				if e != want {
					t.Fatalf("disk %d: Get(%d, %d) = %d, not %d", i, head, n, e, want)
				}
				if e != api.OK && (len(b) != 0 || len(at) != 0) {
					t.Fatalf("disk %d: Get(%d, %d) = %d bytes, %s beside %d", i, head, n, len(b), told(at), e)
				}
			}
		}
	}
	if d.Writes() != 3 {
		t.Errorf("Get does %d writes", d.Writes()-3)
	}
}

// P23.3: each sector of disks of many sizes as the head: a chain of one sector where there is one, else ErrArg.
func TestGetAtEachSector(t *testing.T) {
	for _, sectors := range []int{256, 257, 300, 1 << 17} {
		d := made(t, sectors)
		for i := -5; i < sectors+5; i++ {
			if i == 300 && sectors > 1000 {
				i = sectors - 300
			}
			if i < 0 || i >= sectors {
				if b, at, e := Get(d, i, 0); len(b) != 0 || len(at) != 0 || e != api.ErrArg {
					t.Fatalf("of %d sectors Get(%d, 0) = %d bytes, %s, %d", sectors, i, len(b), told(at), e)
				}
				continue
			}
			falls(t, "a new sector", d, i, 0)
			write(t, d, i, sealed(0, 2, "ab"))
			stands(t, "one sector", d, []int{i}, []byte("ab"))
		}
	}
}

// P23.3: sectors of bytes 0, and of other ones, alone are no chain of any number of bytes.
func TestNoChain(t *testing.T) {
	d := made(t, 256)
	for i, x := range []string{"\x00", "\x01", "\xff", "\x80"} {
		write(t, d, i, strings.Repeat(x, 512))
		for _, n := range lengths() {
			falls(t, "the same bytes", d, i, n)
		}
	}
	for n := 0; n <= 65536; n += 1 + n/3000 {
		falls(t, "bytes 0", d, 0, n)
	}
}
