package line

import (
	"fmt"
	"math"
	"testing"

	"bedrock/api"
)

// noErrors are numbers of no error: below 0, between those that have one, above.
var noErrors = []api.Errno{
	-1, -2, -7, -30, -31, -255, 8, 9, 13, 14, 15, 16, 17, 18, 19, 22, 23, 24, 25, 26, 27, 28, 29, 31, 32, 33, 40, 99, 255, 256, 257, 1 << 16, 1<<16 + 1,
	1 << 32, 1<<32 + 2, -1 << 32, math.MinInt, math.MinInt + 1, math.MinInt + 30, math.MaxInt - 1, math.MaxInt,
}

// allErrors are those with a name and those without, but OK.
func allErrors() []api.Errno {
	l := append([]api.Errno{}, noErrors...)
	for e := range names {
		if e != api.OK {
			l = append(l, e)
		}
	}
	return l
}

// allKinds are the operations' kinds, and such as are none.
func allKinds() []int {
	l := append([]int{}, noKinds...)
	for kind := 1; kind <= 11; kind++ {
		l = append(l, kind)
	}
	return l
}

// P18.2: each error's name, by its number.
func TestError(t *testing.T) {
	for e, want := range map[api.Errno]string{
		api.OK: "ok", api.ErrNil: "nil", api.ErrArg: "arg", api.ErrLong: "long", api.ErrForm: "form", api.ErrNone: "none", api.ErrThere: "there", api.ErrFull: "full",
		api.ErrPlace: "place", api.ErrKind: "kind", api.ErrKeep: "keep", api.ErrBusy: "busy", api.ErrDisk: "disk", api.ErrLine: "line",
	} {
		if s := Error(e); s != want || names[e] != want {
			t.Errorf("Error(%d) = %q, want %q", e, s, want)
		}
	}
}

// P18.2: a number that is none has the empty text.
func TestErrorNone(t *testing.T) {
	for _, e := range noErrors {
		if s := Error(e); s != "" {
			t.Errorf("Error(%d) = %q", e, s)
		}
	}
	for e := api.Errno(-3000); e < 3000; e++ {
		if s := Error(e); s != names[e] {
			t.Errorf("Error(%d) = %q, want %q", e, s, names[e])
		}
	}
}

// answered is the answer's line, by the chapter's words.
func answered(kind int, a api.Answer) string {
	if a.Err != 0 {
		if name, ok := names[a.Err]; ok {
			return "error " + name
		}
		return fmt.Sprintf("error %d", int(a.Err))
	}
	cell := fmt.Sprintf("%d %d", a.Cell.Kind, a.Cell.Level)
	if int(a.Cell.Kind) < len(kindNames) {
		cell = fmt.Sprintf("%s %d", kindNames[a.Cell.Kind], a.Cell.Level)
	}
	switch kind {
	case 7:
		return fmt.Sprintf("%s sky %d lamp %d due %d", cell, a.Light.Sky, a.Light.Lamp, a.Due)
	case 8:
		return fmt.Sprintf("%d %d %d %s steps %d", a.Place.X, a.Place.Y, a.Place.Z, cell, a.N)
	case 10:
		return fmt.Sprintf("now %d placed %d broken %d grown %d burnt %d", a.N, a.Ledger.Placed, a.Ledger.Broken, a.Ledger.Grown, a.Ledger.Burnt)
	}
	return "ok"
}

// answers holds Answer against the account.
func answers(t *testing.T, kind int, a api.Answer) {
	t.Helper()
	if s, want := Answer(kind, a), answered(kind, a); s != want {
		t.Fatalf("Answer(%d, %+v) = %q, want %q", kind, a, s, want)
	}
}

// full is an answer no two of whose numbers are alike.
var full = api.Answer{
	Place: place3(1, 2, -3), Cell: api.Cell{Kind: api.Gravel, Level: 4}, Light: api.Light{Sky: 5, Lamp: 6}, Due: 7, N: 8,
	Ledger: api.Ledger{Placed: 9, Broken: 10, Grown: 11, Burnt: 12},
}

// P18.3: what is told of each kind, each number at its own place.
func TestAnswerByKind(t *testing.T) {
	for kind, want := range map[int]string{
		api.OpSet: "ok", api.OpFill: "ok", api.OpPush: "ok", api.OpAnchor: "ok", api.OpLift: "ok", api.OpTick: "ok", api.OpSave: "ok", api.OpCrash: "ok",
		api.OpLook:  "gravel 4 sky 5 lamp 6 due 7",
		api.OpRay:   "1 2 -3 gravel 4 steps 8",
		api.OpCount: "now 8 placed 9 broken 10 grown 11 burnt 12",
	} {
		if s := Answer(kind, full); s != want {
			t.Errorf("Answer(%d, %+v) = %q, want %q", kind, full, s, want)
		}
	}
	for kind, want := range map[int]string{
		api.OpSet: "ok", api.OpLook: "air 0 sky 0 lamp 0 due 0", api.OpRay: "0 0 0 air 0 steps 0", api.OpCount: "now 0 placed 0 broken 0 grown 0 burnt 0",
	} {
		if s := Answer(kind, api.Answer{}); s != want {
			t.Errorf("Answer(%d) of nothing = %q, want %q", kind, s, want)
		}
	}
	for _, kind := range noKinds {
		if s := Answer(kind, full); s != "ok" {
			t.Errorf("Answer(%d, %+v) = %q, want ok", kind, full, s)
		}
	}
}

// P18.3: an error goes ahead of all else, whatever the kind; of a number that has no name: its digits.
func TestAnswerErrors(t *testing.T) {
	for _, kind := range allKinds() {
		for _, e := range allErrors() {
			a := full
			a.Err = e
			answers(t, kind, a)
			answers(t, kind, api.Answer{Err: e})
		}
	}
	for e, want := range map[api.Errno]string{
		api.ErrNil: "error nil", api.ErrLine: "error line", 8: "error 8", -1: "error -1", 31: "error 31",
		math.MaxInt: "error 9223372036854775807", math.MinInt: "error -9223372036854775808",
	} {
		if s := Answer(api.OpCount, api.Answer{Err: e}); s != want {
			t.Errorf("Answer of the error %d = %q, want %q", e, s, want)
		}
	}
}

// P18.3: every cell, with and without a name: the kind's digits then.
func TestAnswerCells(t *testing.T) {
	for _, kind := range []int{api.OpSet, api.OpLook, api.OpRay, api.OpCount} {
		for k := range 256 {
			for level := range 256 {
				a := full
				a.Cell = api.Cell{Kind: uint8(k), Level: uint8(level)}
				answers(t, kind, a)
			}
		}
	}
	if s := Answer(api.OpLook, api.Answer{Cell: api.Cell{Kind: 15, Level: 255}}); s != "15 255 sky 0 lamp 0 due 0" {
		t.Errorf("Answer of the cell 15 255 = %q", s)
	}
	if s := Answer(api.OpRay, api.Answer{Cell: api.Cell{Kind: 255}}); s != "0 0 0 255 0 steps 0" {
		t.Errorf("Answer of the cell 255 0 = %q", s)
	}
}

// P18.3: every light.
func TestAnswerLights(t *testing.T) {
	for sky := range 256 {
		for lamp := range 256 {
			a := full
			a.Light = api.Light{Sky: uint8(sky), Lamp: uint8(lamp)}
			answers(t, api.OpLook, a)
			answers(t, api.OpRay, a)
		}
	}
}

// parts are an answer's numbers that may be any.
func parts(a *api.Answer) []func(n int) {
	wide := func(to *int64) func(int) { return func(n int) { *to = int64(n) } }
	own := func(to *int) func(int) { return func(n int) { *to = n } }
	return []func(int){
		own(&a.Place.X), own(&a.Place.Y), own(&a.Place.Z), own(&a.N), wide(&a.Due),
		wide(&a.Ledger.Placed), wide(&a.Ledger.Broken), wide(&a.Ledger.Grown), wide(&a.Ledger.Burnt),
	}
}

// P18.3: each number at its ends and below 0, one at a time: where a line does not name it, it changes nothing.
func TestAnswerOneNumber(t *testing.T) {
	for _, kind := range allKinds() {
		for i := range parts(&api.Answer{}) {
			for _, n := range numbers {
				a, b := full, api.Answer{}
				parts(&a)[i](n)
				parts(&b)[i](n)
				answers(t, kind, a)
				answers(t, kind, b)
			}
		}
	}
}

// P18.3: answers at random.
func TestAnswerAtRandom(t *testing.T) {
	r := drawer(8)
	for range 30000 {
		a := api.Answer{
			Place: drawnPlace(r), Cell: api.Cell{Kind: uint8(r.IntN(20)), Level: uint8(r.IntN(256))}, Light: api.Light{Sky: uint8(r.IntN(256)), Lamp: uint8(r.IntN(16))},
			Due: int64(drawn(r)), N: drawn(r), Ledger: api.Ledger{Placed: int64(drawn(r)), Broken: int64(drawn(r)), Grown: int64(drawn(r)), Burnt: int64(drawn(r))},
		}
		if r.IntN(8) == 0 {
			a.Err = api.Errno(drawn(r))
		}
		answers(t, r.IntN(14)-1, a)
	}
}
