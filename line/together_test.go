package line

import (
	"math"
	"strings"
	"sync"
	"testing"

	"bedrock/api"
)

// P18.4: Get of Put is the operation, whatever its numbers.
func TestThereAndBack(t *testing.T) {
	r := drawer(9)
	for kind := 1; kind <= 11; kind++ {
		for range 4000 {
			o := drawnOp(r, kind)
			s, e := Put(o)
			if e != api.OK {
				t.Fatalf("Put(%+v): %d", o, e)
			}
			if back, e := Get(s); back != o || e != api.OK {
				t.Fatalf("Get(%q) = %+v, %d, want %+v", s, back, e, o)
			}
		}
	}
}

// P18.4: Put of what Get tells is the line, of each text that Get takes.
func TestBackAndThere(t *testing.T) {
	r := drawer(10)
	l := vocabulary()
	taken := 0
	for range 40000 {
		form := strings.Fields(forms[1+r.IntN(11)])
		words := []string{form[0]}
		for _, f := range form[1:] {
			switch {
			case f == "KIND":
				words = append(words, pick(r, kindNames))
			case f == "DIRECTION":
				words = append(words, pick(r, directionNames))
			default:
				words = append(words, pick(r, l))
			}
		}
		s := strings.Join(words, " ")
		o, e := Get(s)
		if e != api.OK {
			continue
		}
		taken++
		if back, e := Put(o); back != s || e != api.OK {
			t.Fatalf("Get(%q) = %+v, of which Put is %q, %d", s, o, back, e)
		}
	}
	if taken < 4000 {
		t.Errorf("%d lines were taken", taken)
	}
}

// P18.4: no two operations have one line.
func TestNoTwoAlike(t *testing.T) {
	r := drawer(11)
	met := map[string]api.Op{}
	for range 20000 {
		o := drawnOp(r, 1+r.IntN(11))
		s, _ := Put(o)
		if other, there := met[s]; there && other != o {
			t.Fatalf("%q is the line of %+v and of %+v", s, o, other)
		}
		met[s] = o
	}
}

// P18.4: a line with one blank more at any of its places, or with one less, is none.
func TestBlanks(t *testing.T) {
	for _, s := range lines(t) {
		for i := 0; i <= len(s); i++ {
			isNone(t, s[:i]+" "+s[i:])
			if i < len(s) && s[i] == ' ' {
				isNone(t, s[:i]+s[i+1:])
			}
		}
	}
}

// P18.4: a line with another case of a letter is none.
func TestCases(t *testing.T) {
	for _, s := range lines(t) {
		isNone(t, strings.ToUpper(s))
		for i := range s {
			if s[i] >= 'a' && s[i] <= 'z' {
				isNone(t, s[:i]+strings.ToUpper(s[i:i+1])+s[i+1:])
			}
		}
	}
}

// P18.4: a line with a nought or a plus ahead of a number is none, nor is one with a nought behind its minus.
func TestNoughtsAndPluses(t *testing.T) {
	for _, s := range lines(t) {
		for i := 1; i < len(s); i++ {
			if s[i-1] != ' ' || s[i] >= 'a' {
				continue
			}
			for _, ahead := range []string{"0", "+", "00", "+0", "-0"} {
				isNone(t, s[:i]+ahead+s[i:])
			}
			if s[i] == '-' {
				isNone(t, s[:i]+"-0"+s[i+1:])
				isNone(t, s[:i]+"+"+s[i+1:])
				isNone(t, s[:i]+"--"+s[i+1:])
			}
		}
	}
}

// R1: no call panics, with any numbers and any text.
func TestNoPanic(t *testing.T) {
	r := drawer(12)
	odd := []int{math.MinInt, math.MinInt + 1, -1, 0, 1, 5, 6, 11, 12, 255, 256, math.MaxInt - 1, math.MaxInt}
	for _, kind := range append(odd, allKinds()...) {
		for _, n := range odd {
			for k := range 20 {
				o := api.Op{Kind: kind, A: place3(n, -n, n), B: place3(-n, n, n+1), Cell: api.Cell{Kind: uint8(k * 13), Level: uint8(n)}, N: n}
				puts(t, o)
				o.A, o.B = api.Place{}, api.Place{}
				puts(t, o)
				answers(t, kind, api.Answer{Err: api.Errno(k%2) * api.Errno(n), Place: o.A, Cell: o.Cell, Due: int64(n), N: n, Ledger: api.Ledger{Placed: int64(n), Burnt: int64(-n)}})
			}
			if s := Error(api.Errno(n)); s != names[api.Errno(n)] {
				t.Fatalf("Error(%d) = %q", n, s)
			}
		}
	}
	for range 2000 {
		b := make([]byte, r.IntN(1100))
		for i := range b {
			b[i] = byte(r.IntN(256))
		}
		gets(t, string(b))
		for i := range b {
			b[i] = " -0az\n"[r.IntN(6)]
		}
		gets(t, string(b))
		gets(t, "fill "+string(b))
	}
}

// R6: calls hang on their arguments alone, also where many are at it at once, and lines that are none come between.
func TestAtOnce(t *testing.T) {
	all := lines(t)
	var group sync.WaitGroup
	for range 8 {
		group.Go(func() {
			for _, s := range all {
				o, e := Get(s)
				none, fault := Get(s + " ")
				back, f := Put(o)
				if e != api.OK || none != (api.Op{}) || fault != api.ErrLine || back != s || f != api.OK {
					t.Errorf("Get(%q) = %+v, %d; Put of it %q, %d", s, o, e, back, f)
				}
				if s := Answer(api.OpRay, full); s != "1 2 -3 gravel 4 steps 8" {
					t.Errorf("Answer = %q", s)
				}
			}
		})
	}
	group.Wait()
}
