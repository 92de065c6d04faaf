package kind

import (
	"testing"

	"bedrock/api"
)

// want is the document's table, written out anew, so that a slip in the program's own shows.
type want struct {
	name                                        string
	least, most                                 uint8
	clear, movable, yields, soaks, falls, burns bool
}

var table = []want{
	0:  {name: "air", clear: true, yields: true, soaks: true},
	1:  {name: "bedrock"},
	2:  {name: "stone", movable: true},
	3:  {name: "soil", movable: true},
	4:  {name: "sand", movable: true, falls: true},
	5:  {name: "gravel", movable: true, falls: true},
	6:  {name: "wood", movable: true, burns: true},
	7:  {name: "leaves", movable: true, burns: true},
	8:  {name: "ash", movable: true, falls: true},
	9:  {name: "glass", clear: true, movable: true},
	10: {name: "mover"},
	11: {name: "torch", least: 1, most: 15, clear: true, yields: true, soaks: true},
	12: {name: "plant", most: 3, clear: true, yields: true, soaks: true, burns: true},
	13: {name: "water", most: 7, clear: true, yields: true},
	14: {name: "fire", most: 1, clear: true, yields: true, soaks: true},
}

// noNames are texts that are no kind's name, though some come near one.
var noNames = []string{
	"", " ", "\x00", "Water", "WATER", "wAter", " water", "water ", "\twater", "water\n", "water\x00",
	"wate", "waters", "airair", "air stone", "0", "13", "steel", "\xff\xfe", "wàter",
}

// eachNumber goes through all numbers, those that are no kind's among them.
func eachNumber(do func(k uint8)) {
	for n := range 256 {
		do(uint8(n))
	}
}

// eachCell goes through all cells there are.
func eachCell(do func(c api.Cell)) {
	eachNumber(func(k uint8) {
		eachNumber(func(l uint8) { do(api.Cell{Kind: k, Level: l}) })
	})
}

// wanted is the table's row of a number: that of one that is no kind's is all zero.
func wanted(k uint8) want {
	if int(k) < len(table) {
		return table[k]
	}
	return want{}
}

// P1.1
func TestNames(t *testing.T) {
	eachNumber(func(k uint8) {
		if got := Name(k); got != wanted(k).name {
			t.Errorf("Name(%d) = %q, want %q", k, got, wanted(k).name)
		}
	})
	for k, w := range table {
		if got, ok := Of(w.name); got != uint8(k) || !ok {
			t.Errorf("Of(%q) = %d, %v, want %d, true", w.name, got, ok, k)
		}
	}
	for _, s := range noNames {
		if got, ok := Of(s); got != 0 || ok {
			t.Errorf("Of(%q) = %d, %v, want 0, false", s, got, ok)
		}
	}
}

// P1.2
func TestTraits(t *testing.T) {
	eachNumber(func(k uint8) {
		w := wanted(k)
		for _, x := range []struct {
			call      string
			got, want bool
		}{
			{"Clear", Clear(k), w.clear},
			{"Movable", Movable(k), w.movable},
			{"Yields", Yields(k), w.yields},
			{"Soaks", Soaks(k), w.soaks},
			{"Falls", Falls(k), w.falls},
			{"Burns", Burns(k), w.burns},
		} {
			if x.got != x.want {
				t.Errorf("%s(%d) = %v, want %v", x.call, k, x.got, x.want)
			}
		}
	})
}

// P1.3
func TestLevels(t *testing.T) {
	eachNumber(func(k uint8) {
		if got := Levels(k); got != wanted(k).most {
			t.Errorf("Levels(%d) = %d, want %d", k, got, wanted(k).most)
		}
	})
}

// P1.3: all cells, so each end of a kind's levels and the one beyond.
func TestMay(t *testing.T) {
	eachCell(func(c api.Cell) {
		w := wanted(c.Kind)
		may := w.name != "" && c.Level >= w.least && c.Level <= w.most
		if got := May(c); got != may {
			t.Errorf("May(%v) = %v, want %v", c, got, may)
		}
	})
}

// P1.3
func TestLamp(t *testing.T) {
	eachCell(func(c api.Cell) {
		var lamp uint8
		if c.Kind == 11 && c.Level <= 15 {
			lamp = c.Level
		}
		if c.Kind == 14 && c.Level <= 1 {
			lamp = 10
		}
		if got := Lamp(c); got != lamp {
			t.Errorf("Lamp(%v) = %d, want %d", c, got, lamp)
		}
	})
}

// P1.4
func TestThereAndBack(t *testing.T) {
	for k := range uint8(15) {
		if got, ok := Of(Name(k)); got != k || !ok {
			t.Errorf("Of(Name(%d)) = %d, %v", k, got, ok)
		}
	}
	for _, s := range append(names(), noNames...) {
		if k, ok := Of(s); ok && Name(k) != s {
			t.Errorf("Of(%q) = %d, whose name is %q", s, k, Name(k))
		}
	}
}

func names() []string {
	var l []string
	for _, w := range table {
		l = append(l, w.name)
	}
	return l
}

// P1.5
func TestHangTogether(t *testing.T) {
	hold := func(k uint8, says string, holds bool) {
		if !holds {
			t.Errorf("kind %d: not so: %s", k, says)
		}
	}
	for k := range uint8(15) {
		hold(k, "what soaks yields", !Soaks(k) || Yields(k))
		hold(k, "what yields soaks, but water", !Yields(k) || Soaks(k) != (k == api.Water))
		hold(k, "what yields is clear", !Yields(k) || Clear(k))
		hold(k, "what is clear and movable is glass", (Clear(k) && Movable(k)) == (k == api.Glass))
		hold(k, "what falls is movable", !Falls(k) || Movable(k))
		hold(k, "what is neither clear nor movable is bedrock or a mover", (!Clear(k) && !Movable(k)) == (k == api.Bedrock || k == api.Mover))
	}
	eachCell(func(c api.Cell) {
		if Lamp(c) > 0 && !(May(c) && Clear(c.Kind)) {
			t.Errorf("the lamp %v may not be, or is not clear", c)
		}
	})
}

// P1.6: a panic of any call at any argument ends the test.
func TestNoPanic(t *testing.T) {
	eachNumber(func(k uint8) {
		Name(k)
		Clear(k)
		Movable(k)
		Yields(k)
		Soaks(k)
		Falls(k)
		Burns(k)
		Levels(k)
	})
	eachCell(func(c api.Cell) {
		May(c)
		Lamp(c)
	})
	for _, s := range noNames {
		Of(s)
	}
	Of(string(make([]byte, 1<<16)))
}

// The chapter's examples.
func TestExamplesOfNames(t *testing.T) {
	if Name(4) != "sand" || Name(14) != "fire" || Name(15) != "" {
		t.Errorf("Name of 4, 14, 15: %q, %q, %q", Name(4), Name(14), Name(15))
	}
	for _, x := range []struct {
		name string
		k    uint8
		ok   bool
	}{{"water", 13, true}, {"Water", 0, false}, {"", 0, false}} {
		if k, ok := Of(x.name); k != x.k || ok != x.ok {
			t.Errorf("Of(%q) = %d, %v, want %d, %v", x.name, k, ok, x.k, x.ok)
		}
	}
}

func TestExamplesOfTraits(t *testing.T) {
	if !Clear(9) || !Movable(9) || Yields(9) {
		t.Errorf("glass: %v, %v, %v", Clear(9), Movable(9), Yields(9))
	}
	if Soaks(13) || !Yields(13) || !Burns(12) || !Falls(8) || Falls(15) {
		t.Errorf("soaks 13, yields 13, burns 12, falls 8, falls 15: %v, %v, %v, %v, %v", Soaks(13), Yields(13), Burns(12), Falls(8), Falls(15))
	}
	if Levels(11) != 15 || Levels(13) != 7 || Levels(2) != 0 || Levels(200) != 0 {
		t.Errorf("Levels of 11, 13, 2, 200: %d, %d, %d, %d", Levels(11), Levels(13), Levels(2), Levels(200))
	}
}

func TestExamplesOfCells(t *testing.T) {
	for _, x := range []struct {
		kind, level uint8
		may         bool
	}{{11, 0, false}, {11, 15, true}, {13, 8, false}, {12, 3, true}, {2, 1, false}, {15, 0, false}} {
		if got := May(api.Cell{Kind: x.kind, Level: x.level}); got != x.may {
			t.Errorf("May of %d, %d = %v", x.kind, x.level, got)
		}
	}
	for _, x := range []struct{ kind, level, lamp uint8 }{
		{11, 7, 7}, {11, 0, 0}, {11, 16, 0}, {14, 1, 10}, {14, 2, 0}, {9, 0, 0},
	} {
		if got := Lamp(api.Cell{Kind: x.kind, Level: x.level}); got != x.lamp {
			t.Errorf("Lamp of %d, %d = %d, want %d", x.kind, x.level, got, x.lamp)
		}
	}
}
