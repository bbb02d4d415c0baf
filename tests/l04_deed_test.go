package tests

import (
	"strings"
	"testing"

	"loop.example/g00411/impl"
)

// deedTexts has each right Deed and what is shown of it, written out by hand but for the digits.
func deedTexts() map[impl.Deed]string {
	texts := map[impl.Deed]string{{Kind: 4}: "wait"}
	for place, letter := range []string{"x", "y", "z"} {
		at := int64(place)
		texts[impl.Deed{Kind: 1, Place: at}] = "read " + letter
		for i, group := range digits() {
			texts[impl.Deed{Kind: 1, Place: at, Group: int64(i + 1)}] = "read " + letter + " in " + group
		}
		for i, value := range digits() {
			written := int64(i + 1)
			texts[impl.Deed{Kind: 3, Place: at, Value: written}] = "swap " + letter + " " + value
			texts[impl.Deed{Kind: 2, Place: at, Value: written}] = "write " + letter + " " + value
			for k, group := range digits() {
				texts[impl.Deed{Kind: 2, Place: at, Value: written, Group: int64(k + 1)}] = "write " + letter + " " + value + " in " + group
			}
		}
	}
	return texts
}

func digits() []string { return []string{"1", "2", "3", "4", "5", "6", "7", "8", "9"} }

// textDeeds is deedTexts from the other side: whatever is no key of it is no Deed.
func textDeeds() map[string]impl.Deed {
	deeds := map[string]impl.Deed{}
	for d, text := range deedTexts() {
		deeds[text] = d
	}
	return deeds
}

// mustRead holds ReadDeed against all texts that are some Deed's.
func mustRead(t *testing.T, deeds map[string]impl.Deed, text string) {
	t.Helper()
	want, is := deeds[text]
	if d, ok := impl.ReadDeed(text); ok != is || d != want {
		t.Fatalf("ReadDeed(%q) = %+v, %v; want %+v, %v", text, d, ok, want, is)
	}
}

func mustNotRead(t *testing.T, text string) {
	t.Helper()
	if d, ok := impl.ReadDeed(text); ok || d != (impl.Deed{}) {
		t.Errorf("ReadDeed(%q) = %+v, %v", text, d, ok)
	}
}

func mustBeNoDeed(t *testing.T, d impl.Deed) {
	t.Helper()
	if impl.DeedOk(d) {
		t.Errorf("DeedOk(%+v)", d)
	}
	if s := impl.ShowDeed(d); s != "" {
		t.Errorf("ShowDeed(%+v) = %q", d, s)
	}
}

func TestKinds(t *testing.T) {
	if impl.DdRead != 1 || impl.DdWrite != 2 || impl.DdSwap != 3 || impl.DdWait != 4 {
		t.Fatal(impl.DdRead, impl.DdWrite, impl.DdSwap, impl.DdWait)
	}
}

// Promise 4.
func TestReadDeedOfShowDeedIsTheDeed(t *testing.T) {
	texts := deedTexts()
	if len(texts) != 1+3*10+3*9+3*9*10 {
		t.Fatalf("%d right Deeds", len(texts))
	}
	for d := range texts {
		if back, ok := impl.ReadDeed(impl.ShowDeed(d)); !ok || back != d {
			t.Errorf("ReadDeed(ShowDeed(%+v)) = %+v, %v", d, back, ok)
		}
	}
}

// Promise 4, from the other side: what is read is shown as it was.
func TestShowDeedOfReadDeedIsTheText(t *testing.T) {
	deeds := textDeeds()
	if len(deeds) != len(deedTexts()) {
		t.Fatalf("%d texts of %d Deeds", len(deeds), len(deedTexts()))
	}
	for text := range deeds {
		mustRead(t, deeds, text)
		d, _ := impl.ReadDeed(text)
		if s := impl.ShowDeed(d); s != text {
			t.Errorf("ShowDeed(ReadDeed(%q)) = %q", text, s)
		}
	}
}

func TestDeedOkAndShowDeedOfAllNearAndFar(t *testing.T) {
	texts := deedTexts()
	kinds := append([]int64{-4, -1, 0, 1, 2, 3, 4, 5, 6, 1<<32 + 1, 1<<32 + 4}, far...)
	places := append([]int64{-1, 0, 1, 2, 3, 4, 1 << 32}, far...)
	values := append([]int64{-9, -1, 0, 1, 2, 3, 4, 5, 6, 7, 8, 9, 10, 11, 1<<32 + 1}, far...)
	right := 0
	for _, kind := range kinds {
		for _, place := range places {
			for _, value := range values {
				for _, group := range values {
					d := impl.Deed{Kind: kind, Place: place, Value: value, Group: group}
					want, is := texts[d]
					if got := impl.DeedOk(d); got != is {
						t.Fatalf("DeedOk(%+v) = %v", d, got)
					}
					if got := impl.ShowDeed(d); got != want {
						t.Fatalf("ShowDeed(%+v) = %q, want %q", d, got, want)
					}
					if is {
						right++
					}
				}
			}
		}
	}
	if right != len(texts) {
		t.Fatalf("%d right Deeds met, of %d", right, len(texts))
	}
}

func TestShowDeedByHand(t *testing.T) {
	for _, c := range []struct {
		d    impl.Deed
		want string
	}{
		{impl.Deed{Kind: impl.DdRead}, "read x"},
		{impl.Deed{Kind: impl.DdRead, Place: 2}, "read z"},
		{impl.Deed{Kind: impl.DdRead, Place: 1, Group: 1}, "read y in 1"},
		{impl.Deed{Kind: impl.DdRead, Place: 2, Group: 9}, "read z in 9"},
		{impl.Deed{Kind: impl.DdWrite, Value: 1}, "write x 1"},
		{impl.Deed{Kind: impl.DdWrite, Place: 2, Value: 9}, "write z 9"},
		{impl.Deed{Kind: impl.DdWrite, Place: 1, Value: 7, Group: 2}, "write y 7 in 2"},
		{impl.Deed{Kind: impl.DdWrite, Place: 2, Value: 9, Group: 9}, "write z 9 in 9"},
		{impl.Deed{Kind: impl.DdSwap, Value: 1}, "swap x 1"},
		{impl.Deed{Kind: impl.DdSwap, Place: 2, Value: 9}, "swap z 9"},
		{impl.Deed{Kind: impl.DdWait}, "wait"},
	} {
		if got := impl.ShowDeed(c.d); got != c.want || !impl.DeedOk(c.d) {
			t.Errorf("ShowDeed(%+v) = %q, want %q; DeedOk %v", c.d, got, c.want, impl.DeedOk(c.d))
		}
	}
}

// What a Kind has none of must be 0, and what it has must not be.
func TestNoDeedsByHand(t *testing.T) {
	for _, d := range []impl.Deed{
		{},
		{Kind: 5},
		{Kind: -1},
		{Place: 1, Value: 1},
		{Kind: impl.DdRead, Place: -1},
		{Kind: impl.DdRead, Place: 3},
		{Kind: impl.DdRead, Value: 1},
		{Kind: impl.DdRead, Value: -1},
		{Kind: impl.DdRead, Group: -1},
		{Kind: impl.DdRead, Group: 10},
		{Kind: impl.DdWrite},
		{Kind: impl.DdWrite, Value: -1},
		{Kind: impl.DdWrite, Value: 10},
		{Kind: impl.DdWrite, Value: 1, Place: -1},
		{Kind: impl.DdWrite, Value: 1, Place: 3},
		{Kind: impl.DdWrite, Value: 1, Group: -1},
		{Kind: impl.DdWrite, Value: 1, Group: 10},
		{Kind: impl.DdWrite, Group: 1},
		{Kind: impl.DdSwap},
		{Kind: impl.DdSwap, Value: -1},
		{Kind: impl.DdSwap, Value: 10},
		{Kind: impl.DdSwap, Value: 1, Place: 3},
		{Kind: impl.DdSwap, Value: 1, Place: -1},
		{Kind: impl.DdSwap, Value: 1, Group: 1},
		{Kind: impl.DdSwap, Value: 1, Group: -1},
		{Kind: impl.DdWait, Place: 1},
		{Kind: impl.DdWait, Place: -1},
		{Kind: impl.DdWait, Value: 1},
		{Kind: impl.DdWait, Group: 1},
		{Kind: impl.DdWait, Group: -1},
	} {
		mustBeNoDeed(t, d)
	}
}

// One number far off spoils each right Deed, whatever the others are.
func TestNoDeedsFarOff(t *testing.T) {
	for d := range deedTexts() {
		for _, n := range far {
			kind, place, value, group := d, d, d, d
			kind.Kind, place.Place, value.Value, group.Group = n, n, n, n
			for _, wrong := range []impl.Deed{kind, place, value, group} {
				mustBeNoDeed(t, wrong)
			}
		}
	}
}

func TestReadDeedOfWrongTextsByHand(t *testing.T) {
	for _, text := range []string{
		"", " ", "  ", "\n", "\t", "\x00", "-",
		// A word too few, or too many.
		"read", "write", "swap", "write x", "swap x", "read in 1", "write 1", "write x in 1", "swap 1", "x", "x 1", "in 1", "in",
		"read x in", "write x 1 in", "read x 1", "read x 0", "read x y", "read x 1 in 1", "read x 0 in 1", "write x 1 1", "write x y 1",
		"write x 1 in 1 1", "read x in 1 in 1", "read x in 1 in", "write x 1 in 1 in 1", "swap x 1 1", "wait wait", "wait x", "wait x 0", "wait 0", "wait 1", "wait in 0",
		// Groups where there are none.
		"swap x 1 in 1", "swap x 1 in 0", "wait in 1", "wait x in 1", "read x in 0", "write x 1 in 0",
		// Blanks.
		"read  x", "write  x 1", "write x  1", "write x 1  in 1", "write x 1 in  1", "read x  in 1",
		" read x", "read x ", " wait", "wait ", " write x 1", "write x 1 ", "write x 1 in 1 ", "swap x 1 ", "read x in 1 ", "read x in ", "read ", "write x ",
		"read\tx", "read x\n", "wait\n", "read\u00a0x", "readx", "write x1", "writex 1", "read xin 1", "read x in1", "write x 1in 1", "write x 1 in1",
		// Other places.
		"read w", "read a", "read X", "read xy", "read yz", "read xyz", "read 0", "read 1", "write w 1", "write xy 1", "write 0 1", "swap a 1", "swap yz 1", "write  1", "read xx",
		// Other numbers.
		"write x 0", "write x 10", "write x 11", "write x 99", "write x 01", "write x 001", "write x 00", "write x +1", "write x -1", "write x -0", "write x 1.", "write x 1.0", "write x 1e0",
		"write x 0x1", "write x 1_0", "write x a", "write x one", "write x x", "write x :", "write x /", "write x 1a", "write x a1",
		"swap x 0", "swap x 10", "swap x 01", "swap x +1", "swap x -1", "swap x a",
		"read x in 10", "read x in 01", "read x in +1", "read x in -1", "read x in a", "read x in -0", "read x in 00",
		"write x 1 in 10", "write x 1 in 01", "write x 1 in +1", "write x 1 in -1", "write x 1 in x", "write x 1 in 00",
		// Past what an int32 and an int64 hold, where what is cut off looks right.
		"write x 4294967297", "write x 18446744073709551617", "write x 9223372036854775807", "write x 9223372036854775808", "write x -9223372036854775808", "write x 99999999999999999999999999",
		"read x in 4294967297", "read x in 18446744073709551617", "read x in 99999999999999999999999999", "write x 1 in 18446744073709551616",
		// Other words.
		"Read x", "READ x", "reads x", "rea x", "Wait", "waits", "wai", "swop x 1", "wrote x 1", "read x on 1", "read x IN 1", "do x", "0 x", "1 x", "read x; wait", "wait; wait", "wait | wait",
		// Bytes past 127, digits and letters of others among them.
		"\x80", "\xff", "wait\x80", "\xffwait", "read \xf8", "read \u0445", "write x \u0661", "write x \uff11", "read x\u0301", "read \xffx", "write x \xb1", "write x 1 in \xb1", "\xf2ead x", "read x in \xff", "\ufeffwait",
	} {
		mustNotRead(t, text)
	}
}

// Of each right text: one byte taken away, another one in its place, one more.
func TestReadDeedOneByteOff(t *testing.T) {
	deeds := textDeeds()
	for text := range deeds {
		for at := 0; at <= len(text); at++ {
			if at < len(text) {
				mustRead(t, deeds, text[:at]+text[at+1:])
			}
			for b := range 256 {
				one := string([]byte{byte(b)})
				mustRead(t, deeds, text[:at]+one+text[at:])
				if at < len(text) {
					mustRead(t, deeds, text[:at]+one+text[at+1:])
				}
			}
		}
	}
}

func TestReadDeedOfShortTexts(t *testing.T) {
	mustNotRead(t, "")
	for a := range 256 {
		mustNotRead(t, string([]byte{byte(a)}))
		for b := range 256 {
			mustNotRead(t, string([]byte{byte(a), byte(b)}))
		}
	}
}

// wordByWord asks of the text, and of all that come of it by at most that many words more, and tells how many are some Deed's.
func wordByWord(t *testing.T, deeds map[string]impl.Deed, text string, words []string, more int) int {
	mustRead(t, deeds, text)
	read := 0
	if _, is := deeds[text]; is {
		read++
	}
	if more == 0 {
		return read
	}
	for _, word := range words {
		read += wordByWord(t, deeds, text+" "+word, words, more-1)
	}
	return read
}

// All texts of up to five words of these, the empty word among them, which makes two blanks.
func TestReadDeedWordByWord(t *testing.T) {
	deeds := textDeeds()
	words := []string{"", "read", "write", "swap", "wait", "x", "z", "xy", "0", "1", "9", "10", "01", "in"}
	read := 0
	for _, word := range words {
		read += wordByWord(t, deeds, word, words, 4)
	}
	// Two places, two Values and none or one of two Groups.
	if read != 1+2*3+2*2+2*2*3 {
		t.Fatalf("%d right texts met", read)
	}
}

func TestReadDeedOfAWordMore(t *testing.T) {
	deeds := textDeeds()
	for text := range deeds {
		for _, word := range []string{"", "read", "write", "swap", "wait", "x", "y", "z", "0", "1", "9", "in", "in 1", "in 0", ";", "|", "-"} {
			mustRead(t, deeds, text+" "+word)
			mustRead(t, deeds, word+" "+text)
		}
		for other := range deeds {
			mustNotRead(t, text+" "+other)
			mustNotRead(t, text+other)
		}
	}
}

func TestReadDeedOfLongTexts(t *testing.T) {
	for _, text := range []string{
		strings.Repeat(" ", 1<<20),
		strings.Repeat("read x ", 1<<17),
		strings.Repeat(" in ", 1<<18),
		"read x in " + strings.Repeat("1", 1<<20),
		"write x " + strings.Repeat("0", 1<<20) + "1",
		"write x 1" + strings.Repeat(" in 1", 1<<17),
		"read " + strings.Repeat("x", 1<<20),
		strings.Repeat("\xff", 1<<20),
		"wait" + strings.Repeat("\x00", 1<<20),
	} {
		mustNotRead(t, text)
	}
}

// A text may be a piece of a longer one: what stands around it is not asked.
func TestReadDeedOfAPiece(t *testing.T) {
	whole := "swap x 1 in 2"
	if d, ok := impl.ReadDeed(whole[:8]); !ok || d != (impl.Deed{Kind: impl.DdSwap, Value: 1}) {
		t.Error(d, ok)
	}
	mustNotRead(t, whole[:7])
	mustNotRead(t, whole)
}
