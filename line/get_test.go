package line

import (
	"fmt"
	"math"
	"strings"
	"testing"

	"bedrock/api"
)

// P18.1: each line that Put writes is read; with a word too few, with one too many, with two words changed about, it is read as the table says.
func TestGetWords(t *testing.T) {
	for _, s := range lines(t) {
		if e := gets(t, s); e != api.OK {
			t.Fatalf("Get(%q): %d", s, e)
		}
		words := strings.Split(s, " ")
		for i := range words {
			isNone(t, strings.Join(append(append([]string{}, words[:i]...), words[i+1:]...), " "))
			for _, more := range append([]string{"0", "1", "-1", "set", "air", "east", "", "255"}, words...) {
				isNone(t, strings.Join(append(append(append([]string{}, words[:i]...), more), words[i:]...), " "))
				isNone(t, s+" "+more)
			}
			for j := range words {
				about := append([]string{}, words...)
				about[i], about[j] = about[j], about[i]
				gets(t, strings.Join(about, " "))
			}
		}
	}
}

// vocabulary are words of all sorts: the chapter's, such as are near them, and numbers.
func vocabulary() []string {
	l := []string{"", "x", "ok", "error", "world", "free", "check", "sky", "lamp", "due", "steps", "now", "placed", "X", "N", "KIND", "kind", "nil", "fills", "e", "-", "+", ".", "0x1", "1e3", "1_000", "²", "１", "٣", "NaN", "é", "\x00", "\xff"}
	for _, form := range forms {
		l = append(l, strings.Fields(form)[0])
	}
	l = append(append(l, kindNames...), directionNames...)
	for _, name := range names {
		l = append(l, name)
	}
	for _, n := range numbers {
		l = append(l, fmt.Sprint(n))
	}
	return append(l, badNumbers...)
}

// badNumbers are texts that R5 knows as none, or numbers beyond the ends.
var badNumbers = []string{
	"", "-", "--", "--1", "-0", "+0", "+1", "00", "01", "-01", "-00", "007", "0255", "1.", ".1", "1.0", "0.0", "1,0", "1'0", "1_0", "0_1", "0x0", "0b1", "0o7", "1e1", "1E1", "1-", "1+", "1-1", "−1", "a", "0a", "a0", "１", "²", "٣", "inf", "NaN",
	"9223372036854775808", "-9223372036854775809", "9223372036854775817", "18446744073709551615", "18446744073709551616", "-18446744073709551616", "36893488147419103232", "99999999999999999999", "340282366920938463463374607431768211456",
	"09223372036854775807", "-09223372036854775808", "1\t", "\t1", "1\n", "1\r", "\v1", "1\x00", "\x001", "1\xff", "\u00a01", "1\u2003", "\ufeff1",
	strings.Repeat("9", 200), "-" + strings.Repeat("9", 200), strings.Repeat("0", 200), strings.Repeat("0", 200) + "1", "1" + strings.Repeat("0", 19), "1" + strings.Repeat("0", 300),
}

// P18.1: each word alone, and with each other one behind it.
func TestGetOneOrTwoWords(t *testing.T) {
	l := vocabulary()
	for _, a := range l {
		if e := gets(t, a); e == api.OK && a != "save" && a != "count" {
			t.Fatalf("Get(%q): %d", a, e)
		}
		for _, b := range l {
			gets(t, a+" "+b)
		}
	}
}

// P18.1: words at random, as many as a line may have, less, and more.
func TestGetWordsAtRandom(t *testing.T) {
	r := drawer(6)
	l := vocabulary()
	good := map[api.Errno]int{}
	for range 60000 {
		form := strings.Fields(forms[1+r.IntN(11)])
		words := []string{form[0]}
		for _, f := range form[1:] {
			switch {
			case r.IntN(24) == 0:
				words = append(words, pick(r, l))
			case r.IntN(40) == 0:
			case f == "KIND":
				words = append(words, pick(r, kindNames))
			case f == "DIRECTION":
				words = append(words, pick(r, directionNames))
			case f == "LEVEL":
				words = append(words, fmt.Sprint(r.IntN(300)-20))
			default:
				words = append(words, fmt.Sprint(drawn(r)))
			}
		}
		good[gets(t, strings.Join(words, " "))]++
	}
	if good[api.OK] < 20000 || good[api.ErrLine] < 5000 {
		t.Errorf("of the lines there were %v", good)
	}
}

// each tells the line with the text in the place of each of its words behind the first, one at a time, together with what stands there by its form.
func each(kind int, text string) map[string]string {
	l := map[string]string{}
	form := strings.Fields(forms[kind])
	for i := 1; i < len(form); i++ {
		words := append([]string{}, form...)
		for k, f := range words {
			switch {
			case k == i:
				words[k] = text
			case f == "KIND":
				words[k] = "plant"
			case f == "DIRECTION":
				words[k] = "down"
			case k > 0:
				words[k] = fmt.Sprint(k)
			}
		}
		l[strings.Join(words, " ")] = form[i]
	}
	return l
}

// P18.1: each number at its ends, and one beyond them, with very many digits, and in forms that R5 does not have.
func TestGetNumbers(t *testing.T) {
	for kind := range forms {
		for _, n := range numbers {
			for s, form := range each(kind, fmt.Sprint(n)) {
				can := form != "KIND" && form != "DIRECTION" && (form != "LEVEL" || n >= 0 && n <= 255)
				if e := gets(t, s); (e == api.OK) != can {
					t.Fatalf("Get(%q): %d", s, e)
				}
			}
		}
		for _, text := range badNumbers {
			for s := range each(kind, text) {
				isNone(t, s)
				gets(t, s)
			}
		}
	}
	for s, want := range map[string]int{"tick 9223372036854775807": math.MaxInt, "tick -9223372036854775808": math.MinInt, "tick 0": 0, "tick -1": -1} {
		if o, e := Get(s); o != (api.Op{Kind: api.OpTick, N: want}) || e != api.OK {
			t.Errorf("Get(%q) = %+v, %d", s, o, e)
		}
	}
}

// P18.1: levels from 0 to 255, and what is none.
func TestGetLevels(t *testing.T) {
	for level := -300; level <= 70000; level++ {
		s := fmt.Sprint("set 1 2 3 sand ", level)
		want := api.Op{Kind: api.OpSet, A: place3(1, 2, 3), Cell: api.Cell{Kind: api.Sand, Level: uint8(level)}}
		if o, e := Get(s); level >= 0 && level <= 255 && (o != want || e != api.OK) || (level < 0 || level > 255) && (o != (api.Op{}) || e != api.ErrLine) {
			t.Fatalf("Get(%q) = %+v, %d", s, o, e)
		}
	}
	for _, s := range []string{"256", "-1", "007", "00", "-0", "+1", "255.", "4294967296", "18446744073709551616", "", " 1", "1 "} {
		isNone(t, "set 1 2 3 sand "+s)
		isNone(t, "fill 1 2 3 4 5 6 sand "+s)
	}
}

// bent are texts that are nearly that word: with another case of a letter, cut short, with a letter more, or another.
func bent(word string) []string {
	l := []string{"", strings.ToUpper(word), strings.ToUpper(word[:1]) + word[1:], word + word, "." + word, word + ".", "\t" + word, word + "\n", word + "\x00", "-" + word, word + "0"}
	for i := range word {
		l = append(l, word[:i], word[i+1:], word[:i]+word[i+1:], word[:i]+strings.ToUpper(word[i:i+1])+word[i+1:], word[:i]+word[i:i+1]+word[i:], word[:i]+"x"+word[i+1:], word[:i]+"e"+word[i:], word[:i]+"\xc3"+word[i+1:])
	}
	return append(l, word+"e", word+"s")
}

// P18.1: names with another case of a letter, cut short, with a letter more are none; so are operations' words.
func TestGetBentWords(t *testing.T) {
	for _, name := range kindNames {
		for _, s := range bent(name) {
			isNone(t, "set 1 2 3 "+s+" 0")
			isNone(t, "fill 1 2 3 4 5 6 "+s+" 0")
		}
	}
	for _, name := range directionNames {
		for _, s := range bent(name) {
			isNone(t, "push 1 2 3 "+s)
		}
	}
	for n := range 256 {
		isNone(t, fmt.Sprint("set 1 2 3 ", n, " 0"))
		isNone(t, fmt.Sprint("push 1 2 3 ", n))
	}
	for kind := range forms {
		o := api.Op{Kind: kind}
		s, _ := written(o)
		word, rest, _ := strings.Cut(s, " ")
		for _, b := range bent(word) {
			isNone(t, strings.TrimSuffix(b+" "+rest, " "))
			gets(t, b+" "+rest)
		}
	}
}

// P18.1: the empty text, blanks, tabs, ends of lines, bytes above 127, a zero byte, ahead of a line, behind it and in it.
func TestGetStrangeBytes(t *testing.T) {
	for _, s := range []string{"", " ", "  ", "\n", "\t", "\x00", "\xff", "\x80", "é", "\u00a0", "\ufeff", strings.Repeat(" ", 1024), strings.Repeat("\x00", 1024)} {
		isNone(t, s)
		for _, line := range lines(t) {
			if s == "" || len(s) > 100 {
				continue
			}
			isNone(t, s+line)
			isNone(t, line+s)
			for i := range line {
				if line[i] == ' ' && s != " " {
					isNone(t, line[:i]+s+line[i+1:])
				}
				isNone(t, line[:i]+s+line[i:])
			}
		}
	}
}

// P18.1: every byte of a line changed, taken out, or put in: what the table says.
func TestGetEachByte(t *testing.T) {
	for _, s := range []string{"set 10 -2 3 sand 25", "fill -1 2 0 5 6 7 ash 0", "push 1 20 -3 up", "anchor 1 0 -2 3", "lift 10", "tick -1", "look 7 80 9", "ray 1 2 3 4 5 6 70", "save", "count", "crash 9"} {
		for i := 0; i <= len(s); i++ {
			for b := range 256 {
				gets(t, s[:i]+string([]byte{byte(b)})+s[i:])
				if i < len(s) {
					gets(t, s[:i]+string([]byte{byte(b)})+s[i+1:])
				}
			}
			gets(t, s[:i])
			gets(t, s[i:])
			if i < len(s) {
				gets(t, s[:i]+s[i+1:])
			}
		}
	}
}

// P18.1: texts of 1024 bytes are ErrLine, of more ErrLong, also where they begin with a line.
func TestGetLong(t *testing.T) {
	starts := append(lines(t), "", " ", "x", "tick ", "tick 0", "tick -", "set 0 0 0 air 0 ")
	for _, s := range starts {
		for _, fill := range []string{" ", "0", "x", "\n", "\xff", "\x00"} {
			for _, n := range []int{1023, 1024} {
				isNone(t, s+strings.Repeat(fill, n-len(s)))
			}
			for _, n := range []int{1025, 1026, 2048, 65536, 65537, 1 << 20} {
				if o, e := Get(s + strings.Repeat(fill, n-len(s))); o != (api.Op{}) || e != api.ErrLong {
					t.Fatalf("Get(%q and %q up to %d bytes) = %+v, %d", s, fill, n, o, e)
				}
			}
		}
	}
	if o, e := Get(strings.Repeat("save\n", 1<<22)); o != (api.Op{}) || e != api.ErrLong {
		t.Errorf("Get of very many bytes = %+v, %d", o, e)
	}
}

// P18.1: bytes at random, and of a line's alphabet.
func TestGetBytesAtRandom(t *testing.T) {
	r := drawer(7)
	for range 40000 {
		b := make([]byte, r.IntN(40))
		for i := range b {
			if b[i] = byte(r.IntN(256)); r.IntN(3) > 0 {
				b[i] = "settick 0123456789- "[r.IntN(20)]
			}
		}
		gets(t, string(b))
	}
}
