package line

import (
	"math"
	"testing"

	"bedrock/api"
)

// strange are numbers other than zero, for a field.
func strange() []int {
	var l []int
	for _, n := range numbers {
		if n != 0 {
			l = append(l, n)
		}
	}
	return l
}

// fields are an operation's fields that are numbers.
func fields(o *api.Op) map[string]*int {
	return map[string]*int{"A.X": &o.A.X, "A.Y": &o.A.Y, "A.Z": &o.A.Z, "B.X": &o.B.X, "B.Y": &o.B.Y, "B.Z": &o.B.Z, "N": &o.N}
}

// named are the fields that a row of the chapter's table names, by the kinds.
var named = map[int]string{
	1: "A Cell", 2: "A B Cell", 3: "A N", 4: "N A", 5: "N", 6: "N", 7: "A", 8: "A B N", 9: "", 10: "", 11: "N",
}

// P18.1: each kind of operation, with all that it has at zero.
func TestPutZeroes(t *testing.T) {
	for kind, want := range map[int]string{
		1: "set 0 0 0 air 0", 2: "fill 0 0 0 0 0 0 air 0", 3: "push 0 0 0 east", 4: "anchor 0 0 0 0", 5: "lift 0", 6: "tick 0",
		7: "look 0 0 0", 8: "ray 0 0 0 0 0 0 0", 9: "save", 10: "count", 11: "crash 0",
	} {
		if s, e := Put(api.Op{Kind: kind}); s != want || e != api.OK {
			t.Errorf("Put(Kind %d) = %q, %d, want %q", kind, s, e, want)
		}
	}
}

// P18.1: the words stand in the table's order, each field at its own place.
func TestPutOrder(t *testing.T) {
	a, b, c := place3(1, 2, 3), place3(4, 5, 6), api.Cell{Kind: api.Gravel, Level: 7}
	for want, o := range map[string]api.Op{
		"set 1 2 3 gravel 7":        {Kind: 1, A: a, Cell: c},
		"fill 1 2 3 4 5 6 gravel 7": {Kind: 2, A: a, B: b, Cell: c},
		"push 1 2 3 north":          {Kind: 3, A: a, N: 3},
		"anchor 8 1 2 3":            {Kind: 4, A: a, N: 8},
		"lift 8":                    {Kind: 5, N: 8},
		"tick 8":                    {Kind: 6, N: 8},
		"look 1 2 3":                {Kind: 7, A: a},
		"ray 1 2 3 4 5 6 8":         {Kind: 8, A: a, B: b, N: 8},
		"crash 8":                   {Kind: 11, N: 8},
	} {
		if s, e := Put(o); s != want || e != api.OK {
			t.Errorf("Put(%+v) = %q, %d, want %q", o, s, e, want)
		}
		if back, e := Get(want); back != o || e != api.OK {
			t.Errorf("Get(%q) = %+v, %d, want %+v", want, back, e, o)
		}
	}
}

// P18.1: kinds that are none, bare and with what any operation may have.
func TestPutNoKind(t *testing.T) {
	r := drawer(2)
	for _, kind := range noKinds {
		for of := 1; of <= 11; of++ {
			o := drawnOp(r, of)
			o.Kind = kind
			for _, o := range []api.Op{{Kind: kind}, o} {
				if s, e := Put(o); s != "" || e != api.ErrArg {
					t.Fatalf("Put(%+v) = %q, %d, want ErrArg", o, s, e)
				}
			}
		}
	}
}

// P18.1: every kind and every way to have each field zero or not.
func TestPutEachFieldOrNot(t *testing.T) {
	for kind := -1; kind <= 13; kind++ {
		for bits := range 1 << 9 {
			o := api.Op{Kind: kind}
			at := 0
			take := func(n int) int {
				at++
				return bits >> (at - 1) & 1 * n
			}
			o.A, o.B, o.N = place3(take(-7), take(21), take(9)), place3(take(-8), take(3), take(1)), take(2)
			o.Cell = api.Cell{Kind: uint8(take(11)), Level: uint8(take(15))}
			puts(t, o)
		}
	}
}

// P18.1: a field that the row does not name is not zero, one at a time: ErrArg, whatever its number; one that it names may have any.
func TestPutOneField(t *testing.T) {
	r := drawer(3)
	for kind := 1; kind <= 11; kind++ {
		for field := range fields(&api.Op{}) {
			isNamed := false
			for _, f := range []string{"A", "B", "N"} {
				isNamed = isNamed || field[:1] == f && has(named[kind], f)
			}
			for _, n := range strange() {
				o := drawnOp(r, kind)
				*fields(&o)[field] = n
				puts(t, o)
				_, e := Put(o)
				if can := isNamed && (kind != api.OpPush || field != "N" || n > 0 && n <= 5); (e == api.OK) != can {
					t.Fatalf("Put(%+v): %d, though %s is named: %t", o, e, field, isNamed)
				}
			}
		}
	}
}

func has(fields, field string) bool {
	for i := range fields {
		if fields[i:i+1] == field {
			return true
		}
	}
	return false
}

// P18.1: all cells, of kinds with and without a name, of levels that may be or not; behind an operation that has none: ErrArg.
func TestPutCells(t *testing.T) {
	r := drawer(4)
	for kind := 1; kind <= 11; kind++ {
		o := drawnOp(r, kind)
		for k := range 256 {
			for level := range 256 {
				o.Cell = api.Cell{Kind: uint8(k), Level: uint8(level)}
				puts(t, o)
				if _, e := Put(o); kind > api.OpFill && k+level > 0 && e != api.ErrArg {
					t.Fatalf("Put(%+v): %d", o, e)
				}
			}
		}
	}
}

// P18.1: an operation's directions, and numbers that are none.
func TestPutDirections(t *testing.T) {
	for n, name := range directionNames {
		o := api.Op{Kind: api.OpPush, A: place3(5, -6, 7), N: n}
		if s, e := Put(o); s != "push 5 -6 7 "+name || e != api.OK {
			t.Errorf("Put(%+v) = %q, %d", o, s, e)
		}
	}
	for _, n := range noDirections {
		o := api.Op{Kind: api.OpPush, A: place3(5, -6, 7), N: n}
		if s, e := Put(o); s != "" || e != api.ErrArg {
			t.Errorf("Put(%+v) = %q, %d", o, s, e)
		}
	}
}

// P18.1: numbers at their ends, in each field at once: the longest lines are none that are too long.
func TestPutEnds(t *testing.T) {
	for _, n := range []int{math.MinInt, math.MaxInt} {
		p := place3(n, n, n)
		for kind := 1; kind <= 11; kind++ {
			for mask := range 16 {
				o := api.Op{Kind: kind}
				if mask&1 > 0 {
					o.A = p
				}
				if mask&2 > 0 {
					o.B = p
				}
				if mask&4 > 0 {
					o.N = n
				}
				if mask&8 > 0 {
					o.Cell = api.Cell{Kind: api.Bedrock, Level: 255}
				}
				puts(t, o)
			}
		}
	}
	longest := api.Op{Kind: api.OpFill, A: place3(math.MinInt, math.MinInt, math.MinInt), B: place3(math.MinInt, math.MinInt, math.MinInt), Cell: api.Cell{Kind: api.Bedrock, Level: 255}}
	if s, e := Put(longest); e != api.OK || len(s) != 4+6*21+8+4 {
		t.Errorf("Put(%+v) = %q, %d", longest, s, e)
	}
}

// P18.1: operations at random, of which some have a field too many.
func TestPutAtRandom(t *testing.T) {
	r := drawer(5)
	for range 30000 {
		o := drawnOp(r, 1+r.IntN(11))
		switch r.IntN(8) {
		case 0:
			o.Kind = r.IntN(14) - 1
		case 1:
			o.N = drawn(r)
		case 2:
			o.B = place3(r.IntN(2), r.IntN(2), r.IntN(2))
		case 3:
			o.A = place3(r.IntN(2), r.IntN(2), r.IntN(2))
		case 4:
			o.Cell = api.Cell{Kind: uint8(r.IntN(18)), Level: uint8(r.IntN(2))}
		}
		puts(t, o)
	}
}
