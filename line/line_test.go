package line

import (
	"fmt"
	"math"
	"math/big"
	"math/rand/v2"
	"regexp"
	"strings"
	"testing"

	"bedrock/api"
)

// kindNames are the kinds' names, by their numbers.
var kindNames = []string{"air", "bedrock", "stone", "soil", "sand", "gravel", "wood", "leaves", "ash", "glass", "mover", "torch", "plant", "water", "fire"}

// directionNames are the directions' names, by their numbers.
var directionNames = []string{"east", "west", "south", "north", "up", "down"}

// names are the errors' names, by their numbers.
var names = map[api.Errno]string{
	0: "ok", 1: "nil", 2: "arg", 3: "long", 4: "form", 5: "none", 6: "there", 7: "full",
	10: "place", 11: "kind", 12: "keep", 20: "busy", 21: "disk", 30: "line",
}

// forms are the operations' lines as the chapter writes them, by their kinds.
var forms = map[int]string{
	1: "set X Y Z KIND LEVEL", 2: "fill X Y Z X Y Z KIND LEVEL", 3: "push X Y Z DIRECTION", 4: "anchor N X Y Z", 5: "lift N", 6: "tick N",
	7: "look X Y Z", 8: "ray X Y Z X Y Z N", 9: "save", 10: "count", 11: "crash N",
}

// numbers are such as a number may be, at its ends, too.
var numbers = []int{
	math.MinInt, math.MinInt + 1, -1 << 32, -1<<31 - 1, -1 << 31, -1 << 20, -4097, -256, -255, -100, -11, -10, -9, -2, -1, 0, 1, 2, 3, 4, 5, 6, 7, 8, 9, 10, 11, 19, 63, 64, 99, 100, 101,
	255, 256, 257, 999, 1000, 1024, 65535, 65536, 1<<20 - 1, 1 << 20, 1<<31 - 1, 1 << 31, 1<<32 - 1, 1 << 32, 1<<32 + 1, 1<<53 + 1, 1e18, math.MaxInt - 1, math.MaxInt,
}

// noKinds are numbers of no operation: some of them are one in fewer bits.
var noKinds = []int{0, 12, 13, 15, 16, 255, 256, 257, 1<<16 + 1, 1<<32 + 1, 1<<32 + 11, -1, -2, -11, -12, -255, -1 << 32, math.MinInt, math.MinInt + 1, math.MinInt + 6, math.MaxInt - 1, math.MaxInt}

// noDirections are numbers of no direction.
var noDirections = []int{-1, -2, -6, 6, 7, 8, 12, 255, 256, 257, 1 << 32, 1<<32 + 4, -1 << 32, math.MinInt, math.MinInt + 1, math.MaxInt - 1, math.MaxInt}

func drawer(seed uint64) *rand.Rand { return rand.New(rand.NewPCG(seed, 18)) }

func place3(x, y, z int) api.Place { return api.Place{X: x, Y: y, Z: z} }

func pick[T any](r *rand.Rand, l []T) T { return l[r.IntN(len(l))] }

// drawn is a number at random: one of those at the ends, a small one, or any.
func drawn(r *rand.Rand) int {
	switch r.IntN(4) {
	case 0:
		return pick(r, numbers)
	case 1:
		return int(r.Uint64())
	}
	return r.IntN(2001) - 1000
}

func drawnPlace(r *rand.Rand) api.Place { return place3(drawn(r), drawn(r), drawn(r)) }

// drawnOp is an operation of that kind that can be written.
func drawnOp(r *rand.Rand, kind int) api.Op {
	o := api.Op{Kind: kind}
	for _, word := range strings.Fields(forms[kind])[1:] {
		switch word {
		case "X":
			if o.A, o.B = drawnPlace(r), o.A; strings.Count(forms[kind], "X") == 1 {
				o.B = api.Place{}
			}
		case "KIND":
			o.Cell = api.Cell{Kind: uint8(r.IntN(15)), Level: uint8(r.IntN(256))}
		case "DIRECTION":
			o.N = r.IntN(6)
		case "N":
			o.N = drawn(r)
		}
	}
	return o
}

// written is the operation's line, by the chapter's table, and whether it can be written.
func written(o api.Op) (string, bool) {
	a, b := fmt.Sprint(o.A.X, o.A.Y, o.A.Z), fmt.Sprint(o.B.X, o.B.Y, o.B.Z)
	cell, n, direction := "", fmt.Sprint(o.N), ""
	hasName, isDirection := int(o.Cell.Kind) < len(kindNames), o.N >= 0 && o.N <= 5
	if hasName {
		cell = fmt.Sprint(kindNames[o.Cell.Kind], " ", o.Cell.Level)
	}
	if isDirection {
		direction = directionNames[o.N]
	}
	noA, noB, noCell, noN := o.A == api.Place{}, o.B == api.Place{}, o.Cell == api.Cell{}, o.N == 0
	var s string
	var can bool
	switch o.Kind {
	case 1:
		s, can = "set "+a+" "+cell, hasName && noB && noN
	case 2:
		s, can = "fill "+a+" "+b+" "+cell, hasName && noN
	case 3:
		s, can = "push "+a+" "+direction, isDirection && noB && noCell
	case 4:
		s, can = "anchor "+n+" "+a, noB && noCell
	case 5:
		s, can = "lift "+n, noA && noB && noCell
	case 6:
		s, can = "tick "+n, noA && noB && noCell
	case 7:
		s, can = "look "+a, noB && noCell && noN
	case 8:
		s, can = "ray "+a+" "+b+" "+n, noCell
	case 9:
		s, can = "save", noA && noB && noCell && noN
	case 10:
		s, can = "count", noA && noB && noCell && noN
	case 11:
		s, can = "crash "+n, noA && noB && noCell
	}
	if !can {
		return "", false
	}
	return s, true
}

// patterns are the operations' lines, by their kinds; whether the numbers are too great is not said by them.
var patterns = func() map[int]*regexp.Regexp {
	l := map[int]*regexp.Regexp{}
	for kind, form := range forms {
		form = regexp.MustCompile(`KIND`).ReplaceAllString(form, `(`+strings.Join(kindNames, "|")+`)`)
		form = regexp.MustCompile(`DIRECTION`).ReplaceAllString(form, `(`+strings.Join(directionNames, "|")+`)`)
		form = regexp.MustCompile(`\b(X|Y|Z|N|LEVEL)\b`).ReplaceAllString(form, `(0|-?[1-9][0-9]*)`)
		l[kind] = regexp.MustCompile(`\A` + form + `\z`)
	}
	return l
}()

// whole3 reads digits in numbers that have no end, and tells whether they are from least to most.
func whole3(s string, least, most int) (int, bool) {
	n, ok := new(big.Int).SetString(s, 10)
	if !ok || n.Cmp(big.NewInt(int64(least))) < 0 || n.Cmp(big.NewInt(int64(most))) > 0 {
		return 0, false
	}
	return int(n.Int64()), true
}

// set sets the field for which the word of the form stands, and tells whether the text is one for it.
func set(o *api.Op, form, text string, places *[]api.Place) bool {
	switch form {
	case "KIND":
		o.Cell.Kind = uint8(indexOf(kindNames, text))
		return true
	case "DIRECTION":
		o.N = indexOf(directionNames, text)
		return true
	case "LEVEL":
		n, ok := whole3(text, 0, 255)
		o.Cell.Level = uint8(n)
		return ok
	}
	n, ok := whole3(text, math.MinInt, math.MaxInt)
	last := len(*places) - 1
	switch form {
	case "X":
		*places = append(*places, place3(n, 0, 0))
	case "Y":
		(*places)[last].Y = n
	case "Z":
		(*places)[last].Z = n
	case "N":
		o.N = n
	}
	return ok
}

func indexOf(l []string, s string) int {
	for i, x := range l {
		if x == s {
			return i
		}
	}
	return -1
}

// readBack is the line's operation, by the chapter's table, and the error.
func readBack(s string) (api.Op, api.Errno) {
	if len(s) > 1024 {
		return api.Op{}, api.ErrLong
	}
	for kind, p := range patterns {
		found := p.FindStringSubmatch(s)
		if found == nil {
			continue
		}
		o, places := api.Op{Kind: kind}, []api.Place(nil)
		for i, form := range strings.Fields(forms[kind])[1:] {
			if !set(&o, form, found[i+1], &places) {
				return api.Op{}, api.ErrLine
			}
		}
		places = append(places, api.Place{}, api.Place{})
		o.A, o.B = places[0], places[1]
		return o, api.OK
	}
	return api.Op{}, api.ErrLine
}

// puts holds Put against the account.
func puts(t *testing.T, o api.Op) {
	t.Helper()
	want, can := written(o)
	s, e := Put(o)
	if s != want || (e == api.OK) != can || !can && e != api.ErrArg {
		t.Fatalf("Put(%+v) = %q, %d, want %q, %t", o, s, e, want, can)
	}
}

// gets holds Get against the account.
func gets(t *testing.T, s string) api.Errno {
	t.Helper()
	want, fault := readBack(s)
	o, e := Get(s)
	if o != want || e != fault {
		t.Fatalf("Get(%.1100q) = %+v, %d, want %+v, %d", s, o, e, want, fault)
	}
	return e
}

// isNone holds that the text is no operation's line.
func isNone(t *testing.T, s string) {
	t.Helper()
	if o, e := Get(s); o != (api.Op{}) || e != api.ErrLine {
		t.Fatalf("Get(%q) = %+v, %d, want ErrLine", s, o, e)
	}
}

// lines are lines of every kind of operation.
func lines(t *testing.T) []string {
	t.Helper()
	r := drawer(1)
	var l []string
	for kind := 1; kind <= 11; kind++ {
		for range 12 {
			s, can := written(drawnOp(r, kind))
			if !can {
				t.Fatalf("no line of the kind %d", kind)
			}
			l = append(l, s)
		}
	}
	return l
}

// The chapter's examples.
func TestExamples(t *testing.T) {
	for want, o := range map[string]api.Op{
		"set -1 2 3 torch 9": {Kind: api.OpSet, A: place3(-1, 2, 3), Cell: api.Cell{Kind: api.Torch, Level: 9}},
		"push 0 0 0 up":      {Kind: api.OpPush, N: 4},
	} {
		if s, e := Put(o); s != want || e != api.OK {
			t.Errorf("Put(%+v) = %q, %d, want %q", o, s, e, want)
		}
	}
	for _, o := range []api.Op{{Kind: api.OpSave, N: 1}, {}, {Kind: api.OpPush, N: 6}, {Kind: api.OpSet, Cell: api.Cell{Kind: 15}}} {
		if s, e := Put(o); s != "" || e != api.ErrArg {
			t.Errorf("Put(%+v) = %q, %d, want ErrArg", o, s, e)
		}
	}
	want := api.Op{Kind: api.OpRay, A: place3(0, 20, 0), B: place3(1, 0, -2), N: 9}
	if o, e := Get("ray 0 20 0 1 0 -2 9"); o != want || e != api.OK {
		t.Errorf("Get(ray 0 20 0 1 0 -2 9) = %+v, %d", o, e)
	}
	for _, s := range []string{"save ", "tick 01", "tick +1", "Tick 1", "tick", "tick 1 2", "look 0 0", "", "tick 9223372036854775808", "set 0 0 0 sand 256"} {
		isNone(t, s)
	}
	for _, x := range []struct {
		kind int
		a    api.Answer
		want string
	}{
		{api.OpLook, api.Answer{Cell: api.Cell{Kind: api.Water, Level: 3}, Light: api.Light{Sky: 15, Lamp: 2}, Due: 9}, "water 3 sky 15 lamp 2 due 9"},
		{api.OpTick, api.Answer{Err: api.ErrLong}, "error long"},
		{api.OpTick, api.Answer{}, "ok"},
		{api.OpTick, api.Answer{Err: 99}, "error 99"},
	} {
		if s := Answer(x.kind, x.a); s != x.want {
			t.Errorf("Answer(%d, %+v) = %q, want %q", x.kind, x.a, s, x.want)
		}
	}
}
