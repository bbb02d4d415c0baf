package tests

import (
	"regexp"
	"strings"
	"testing"

	"loop.example/g00411/impl"
)

// shownDeeds and namedDeeds are made once, as each work asks for several of them.
var shownDeeds, namedDeeds = deedTexts(), textDeeds()

// clerkOf has these Deeds, by their texts; a text that is none's is a slip of the test.
func clerkOf(texts ...string) []impl.Deed {
	list := []impl.Deed{}
	for _, text := range texts {
		d, is := namedDeeds[text]
		if !is {
			panic(text + " is no Deed's text")
		}
		list = append(list, d)
	}
	return list
}

func workOf(clerks ...[]impl.Deed) [][]impl.Deed { return clerks }

// times has that text so many times.
func times(n int, text string) []string {
	texts := []string{}
	for range n {
		texts = append(texts, text)
	}
	return texts
}

// isWork asks limit by limit, each Deed and each two Deeds by themselves.
func isWork(w [][]impl.Deed) bool {
	if len(w) == 0 || len(w) > 3 {
		return false
	}
	all := 0
	owners := map[int64]int{}
	for c, list := range w {
		if len(list) > 5 {
			return false
		}
		all += len(list)
		for _, d := range list {
			owner, met := owners[d.Group]
			if _, is := shownDeeds[d]; !is || d.Group != 0 && met && owner != c {
				return false
			}
			owners[d.Group] = c
		}
		if isParted(list) {
			return false
		}
	}
	return all <= 12 && eventsBySum(w) <= 6
}

// isParted looks between each two of one Group.
func isParted(list []impl.Deed) bool {
	for a, first := range list {
		for b := a + 1; b < len(list); b++ {
			if first.Group == 0 || first.Group != list[b].Group {
				continue
			}
			for _, between := range list[a:b] {
				if between.Group != first.Group {
					return true
				}
			}
		}
	}
	return false
}

func eventsBySum(w [][]impl.Deed) int64 {
	weights := map[int64]int64{1: 1, 2: 1, 3: 2, 4: 0}
	n := int64(0)
	for _, list := range w {
		for _, d := range list {
			n += weights[d.Kind]
		}
	}
	return n
}

// workText puts text to text, with what stands between ahead of all but the first.
func workText(w [][]impl.Deed) string {
	text := ""
	for c, list := range w {
		if c > 0 {
			text += " | "
		}
		if len(list) == 0 {
			text += "-"
		}
		for at, d := range list {
			if at > 0 {
				text += "; "
			}
			text += shownDeeds[d]
		}
	}
	return text
}

// spacedOut lays waits everywhere and then the others over every second one.
func spacedOut(w [][]impl.Deed) [][]impl.Deed {
	made := [][]impl.Deed{}
	for _, list := range w {
		others := []impl.Deed{}
		for _, d := range list {
			if d.Kind != 4 {
				others = append(others, impl.Deed{Kind: d.Kind, Place: d.Place, Value: d.Value})
			}
		}
		spaced := clerkOf(times(max(0, 2*len(others)-1), "wait")...)
		for i, d := range others {
			spaced[2*i] = d
		}
		made = append(made, spaced)
	}
	if !isWork(made) {
		return nil
	}
	return made
}

func sameWork(a [][]impl.Deed, b [][]impl.Deed) bool {
	if len(a) != len(b) {
		return false
	}
	for c := range a {
		if len(a[c]) != len(b[c]) {
			return false
		}
		for at := range a[c] {
			if a[c][at] != b[c][at] {
				return false
			}
		}
	}
	return true
}

func copiedWork(w [][]impl.Deed) [][]impl.Deed {
	made := [][]impl.Deed{}
	for _, list := range w {
		made = append(made, append([]impl.Deed{}, list...))
	}
	return made
}

// mustAnswer holds all that chapter 5 tells of a work, or of what is none, against what the test tells; it answers whether it is one.
func mustAnswer(t *testing.T, w [][]impl.Deed) bool {
	t.Helper()
	is, text, events, waited := isWork(w), "", int64(-1), [][]impl.Deed{}
	if is {
		text, events, waited = workText(w), eventsBySum(w), spacedOut(w)
	}
	if got := impl.WorkOk(w); got != is {
		t.Fatalf("WorkOk(%v) = %v", w, got)
	}
	if got := impl.EventsIn(w); got != events {
		t.Fatalf("EventsIn(%v) = %d, want %d", w, got, events)
	}
	if got := impl.ShowWork(w); got != text {
		t.Fatalf("ShowWork(%v) = %q, want %q", w, got, text)
	}
	if got := impl.Waited(w); !sameWork(got, waited) {
		t.Fatalf("Waited(%v) = %v, want %v", w, got, waited)
	}
	// Promise 5; where there is no work its text is empty, and nothing is read of it.
	back, ok := impl.ReadWork(impl.ShowWork(w))
	if ok != is || is && !sameWork(back, w) || !is && len(back) != 0 {
		t.Fatalf("ReadWork(ShowWork(%v)) = %v, %v", w, back, ok)
	}
	return is
}

func mustBeWork(t *testing.T, w [][]impl.Deed) {
	t.Helper()
	if !mustAnswer(t, w) {
		t.Errorf("%v should be a work", w)
	}
}

func mustBeNoWork(t *testing.T, w [][]impl.Deed) {
	t.Helper()
	if mustAnswer(t, w) {
		t.Errorf("%v should be no work", w)
	}
}

// clerksOf are all lists of at most that many of these Deeds.
func clerksOf(some []impl.Deed, most int) [][]impl.Deed {
	lists, longest := [][]impl.Deed{{}}, [][]impl.Deed{{}}
	for range most {
		longer := [][]impl.Deed{}
		for _, list := range longest {
			for _, d := range some {
				longer = append(longer, append(append([]impl.Deed{}, list...), d))
			}
		}
		lists, longest = append(lists, longer...), longer
	}
	return lists
}

// mixedClerks are of all Kinds, Groups and lengths, and a few of them of none that are right.
func mixedClerks() [][]impl.Deed {
	return append(clerksOf(clerkOf("read x", "swap z 9", "wait", "read x in 1", "write y 2 in 1", "write z 3 in 9"), 2),
		nil,
		clerkOf("write x 1", "write y 2", "write z 3"),
		clerkOf("read x in 1", "read x in 1", "read y in 2"),
		clerkOf("read x in 1", "read x", "read y in 1"),
		clerkOf(times(5, "wait")...),
		clerkOf(times(6, "wait")...),
		clerkOf(times(5, "read z in 3")...),
		clerkOf("wait", "swap x 1", "wait", "swap y 2", "wait"),
		[]impl.Deed{{}},
		[]impl.Deed{{Kind: impl.DdSwap, Value: 1, Group: 1}},
		[]impl.Deed{{Kind: impl.DdRead}, {Kind: impl.DdWrite}},
	)
}

// evenClerks has each number of plain reads, swaps and waits that is at most that much in all.
func evenClerks(most int) [][]impl.Deed {
	lists := [][]impl.Deed{}
	for reads := range most + 1 {
		for swaps := range most + 1 - reads {
			for waits := range most + 1 - reads - swaps {
				texts := append(times(reads, "read y"), times(swaps, "swap y 4")...)
				lists = append(lists, clerkOf(append(texts, times(waits, "wait")...)...))
			}
		}
	}
	return lists
}

func TestLimitsOfWork(t *testing.T) {
	if impl.MaxDeeds != 12 || impl.MaxEvents != 6 {
		t.Fatal(impl.MaxDeeds, impl.MaxEvents)
	}
}

// Promise 5.
func TestReadWorkOfShowWorkIsTheWork(t *testing.T) {
	some := clerkOf("read x", "write y 3", "swap z 9", "wait", "read x in 1", "write y 2 in 1", "read z in 2")
	right := 0
	for _, one := range clerksOf(some, 5) {
		if mustAnswer(t, workOf(one)) {
			right++
		}
	}
	for _, one := range mixedClerks() {
		for _, two := range mixedClerks() {
			if mustAnswer(t, workOf(one, two)) {
				right++
			}
			for _, three := range mixedClerks() {
				if mustAnswer(t, workOf(one, two, three)) {
					right++
				}
			}
		}
	}
	if right < 30000 {
		t.Fatalf("only %d works were met", right)
	}
}

// Each right Deed by itself, and each one that is one number off, wherever it stands.
func TestWorkOfEveryDeed(t *testing.T) {
	for d := range shownDeeds {
		mustBeWork(t, workOf([]impl.Deed{d}))
		mustBeWork(t, workOf(clerkOf("read x", "wait"), clerkOf(), []impl.Deed{d, d}))
		kind, place, value, group := d, d, d, d
		for _, n := range append([]int64{-1, 1, 2, 4, 9}, far...) {
			kind.Kind, place.Place, value.Value, group.Group = d.Kind+n, d.Place+n, d.Value+n, d.Group+n
			for _, other := range []impl.Deed{kind, place, value, group} {
				mustAnswer(t, workOf([]impl.Deed{other}))
				mustAnswer(t, workOf(clerkOf("read x", "wait"), []impl.Deed{d, other}))
				mustAnswer(t, workOf([]impl.Deed{other, d}, clerkOf("read x"), clerkOf()))
			}
		}
	}
}

func TestWorkAtEachLimit(t *testing.T) {
	for _, one := range evenClerks(7) {
		mustAnswer(t, workOf(one))
		for _, two := range evenClerks(6) {
			mustAnswer(t, workOf(one, two))
		}
	}
	met := map[int]int{}
	for _, one := range evenClerks(5) {
		for _, two := range evenClerks(5) {
			for _, three := range evenClerks(5) {
				w := workOf(one, two, three)
				if mustAnswer(t, w) {
					met[len(one)+len(two)+len(three)]++
				}
			}
		}
	}
	if met[12] == 0 || met[13] != 0 {
		t.Fatalf("works by how many Deeds: %v", met)
	}
}

// wrongWorks has each way in which a work is refused.
func wrongWorks() [][][]impl.Deed {
	five, six := clerkOf(times(5, "wait")...), clerkOf(times(6, "wait")...)
	return [][][]impl.Deed{
		nil, {}, {{}, {}, {}, {}}, {nil, nil, nil, nil}, {clerkOf("wait"), nil, nil, clerkOf("wait")},
		{six}, {{}, six}, {{}, {}, six}, {six, {}},
		// 13 Deeds in all, of at most 5 each.
		{five, five, clerkOf("wait", "wait", "wait")},
		{clerkOf("wait", "read x", "wait"), five, clerkOf("read x", "read y", "wait", "write x 1", "swap y 1")},
		{five, five, five},
		// 7 events in all, of at most 12 Deeds.
		{clerkOf("read x", "read x", "read x", "read x", "read x"), clerkOf("write x 1", "write y 1")},
		{clerkOf("swap x 1", "swap x 1", "swap x 1", "read x")},
		{clerkOf("read x", "read x", "read x", "read x", "read x"), clerkOf("swap x 1")},
		{clerkOf("swap x 1", "swap x 1"), clerkOf("swap x 1", "swap x 1")},
		{clerkOf("swap x 1"), clerkOf("write x 1", "write x 1"), clerkOf("read x", "read x", "read x")},
		// Groups that are parted.
		{clerkOf("read x in 1", "read x", "read x in 1")},
		{clerkOf("read x in 1", "wait", "read x in 1")},
		{clerkOf("read x in 1", "read x in 2", "read x in 1")},
		{clerkOf("read x in 1", "read x in 2", "wait", "read y", "read x in 1")},
		{clerkOf("read x in 1", "read x in 1", "swap x 1", "read x in 1")},
		{{}, clerkOf("read x in 9", "read x", "write x 1 in 9")},
		// Groups that two clerks have.
		{clerkOf("read x in 1"), clerkOf("read y in 1")},
		{clerkOf("read x in 1"), {}, clerkOf("read y in 1")},
		{{}, clerkOf("read x in 9"), clerkOf("read x", "write y 1 in 9")},
		{clerkOf("read x in 1", "read x in 2"), clerkOf("read x in 3", "read x in 2")},
		// Deeds that are not right.
		{{{}}}, {{}, {{}}}, {clerkOf("read x"), {{Kind: 5}}}, {{{Kind: 1, Group: 10}}}, {{{Kind: 1, Group: -1}, {Kind: 1, Group: -1}}},
		{{{Kind: 4, Group: 1}}}, {{{Kind: 3, Value: 1, Group: 1}}}, {{{Kind: 1, Group: 11}}, {{Kind: 1, Group: 12}}},
	}
}

func TestWorksByHand(t *testing.T) {
	five := clerkOf(times(5, "wait")...)
	for _, w := range [][][]impl.Deed{
		{{}}, {nil}, {{}, {}}, {nil, nil, nil}, {five}, {five, five}, {{}, {}, five},
		// 12 Deeds in all.
		{five, five, clerkOf("wait", "wait")},
		{clerkOf("wait", "read x"), five, clerkOf("read x", "read y", "wait", "write x 1", "swap y 1")},
		// 6 events in all.
		{clerkOf("read x", "read x", "read x", "read x", "read x"), clerkOf("write x 1")},
		{clerkOf("swap x 1", "swap x 1", "swap x 1")},
		{clerkOf("swap x 1", "read x"), clerkOf("swap y 1"), clerkOf("write z 9")},
		{clerkOf("swap x 1", "wait"), clerkOf("swap x 1", "wait"), clerkOf("swap x 1", "wait")},
		// Groups side by side.
		{clerkOf("read x in 1", "write y 1 in 1", "read x in 2", "read x in 2")},
		{clerkOf("read x", "read x in 9", "wait", "read x in 1"), clerkOf("read x in 2", "read y in 3")},
		{clerkOf("read x in 1"), clerkOf("read x"), clerkOf("read x in 2")},
	} {
		mustBeWork(t, w)
	}
	for _, w := range wrongWorks() {
		mustBeNoWork(t, w)
	}
}

func TestShowWorkByHand(t *testing.T) {
	for _, c := range []struct {
		w      [][]impl.Deed
		want   string
		events int64
	}{
		{workOf(nil), "-", 0},
		{workOf(nil, nil, nil), "- | - | -", 0},
		{workOf(clerkOf("wait")), "wait", 0},
		{workOf(clerkOf("wait", "wait"), nil), "wait; wait | -", 0},
		{workOf(nil, clerkOf("read x")), "- | read x", 1},
		{workOf(clerkOf("write x 1", "read y"), clerkOf("write y 1", "read x")), "write x 1; read y | write y 1; read x", 4},
		{workOf(clerkOf("swap x 1"), clerkOf("swap x 2"), clerkOf("swap x 3")), "swap x 1 | swap x 2 | swap x 3", 6},
		{workOf(clerkOf("write z 7 in 2", "read z in 2", "wait"), nil, clerkOf("swap y 2")), "write z 7 in 2; read z in 2; wait | - | swap y 2", 4},
	} {
		if got := impl.ShowWork(c.w); got != c.want {
			t.Errorf("ShowWork(%v) = %q, want %q", c.w, got, c.want)
		}
		if got := impl.EventsIn(c.w); got != c.events {
			t.Errorf("EventsIn(%v) = %d, want %d", c.w, got, c.events)
		}
		if got, ok := impl.ReadWork(c.want); !ok || !sameWork(got, c.w) {
			t.Errorf("ReadWork(%q) = %v, %v", c.want, got, ok)
		}
	}
}

func TestLongWorks(t *testing.T) {
	const long = 1 << 20
	clerks := make([][]impl.Deed, long)
	mustBeNoWork(t, clerks)
	mustBeNoWork(t, clerks[:4])
	mustBeWork(t, clerks[:3])
	for _, d := range []impl.Deed{{}, {Kind: 1}, {Kind: 4}, {Kind: 1, Group: 1}, {Kind: 3, Value: 1}, {Kind: 1, Group: far[0]}} {
		list := make([]impl.Deed, long)
		for i := range list {
			list[i] = d
		}
		mustBeNoWork(t, workOf(list))
		mustBeNoWork(t, workOf(clerkOf("wait"), list))
		mustBeNoWork(t, workOf(list, list, list))
		mustBeNoWork(t, workOf(list, list, list, list))
	}
	// So many Groups that each is parted from the last one of it.
	list := make([]impl.Deed, long)
	for i := range list {
		list[i] = impl.Deed{Kind: 1, Group: int64(i % 10)}
	}
	mustBeNoWork(t, workOf(list))
}

// workForm is what a right text looks like; it asks neither for the limits nor for the Groups.
var workForm = regexp.MustCompile(strings.ReplaceAll(`^(?:-|D(?:; D)*)(?: \| (?:-|D(?:; D)*))*$`,
	"D", `(?:wait|swap [xyz] [1-9]|read [xyz](?: in [1-9])?|write [xyz] [1-9](?: in [1-9])?)`))

var deedForm = regexp.MustCompile(`[a-z][^;|]*[^;| ]`)

// workNamed reads a text by its form.
func workNamed(text string) ([][]impl.Deed, bool) {
	if !workForm.MatchString(text) {
		return nil, false
	}
	w := [][]impl.Deed{}
	for clerk := range strings.SplitSeq(text, "|") {
		w = append(w, clerkOf(deedForm.FindAllString(clerk, -1)...))
	}
	if !isWork(w) {
		return nil, false
	}
	return w, true
}

// mustReadWork answers whether the text is some work's.
func mustReadWork(t *testing.T, text string) bool {
	t.Helper()
	want, is := workNamed(text)
	if got, ok := impl.ReadWork(text); ok != is || !sameWork(got, want) {
		t.Fatalf("ReadWork(%q) = %v, %v; want %v, %v", text, got, ok, want, is)
	}
	return is
}

func mustNotReadWork(t *testing.T, text string) {
	t.Helper()
	if w, ok := impl.ReadWork(text); ok || len(w) != 0 {
		t.Errorf("ReadWork(%q) = %v, %v", text, w, ok)
	}
}

func TestReadWorkOfWrongTextsByHand(t *testing.T) {
	for _, text := range []string{
		"", " ", "  ", "\n", "\x00", "--", "- ", " -", "-\n", "; ", ";", "|", " | ", " |  | ", "0", "-1",
		// A clerk too many.
		"- | - | - | -", "wait | wait | wait | wait", "read x | - | - | read y", "- | - | - | ", "- | - | - | - | -",
		// A clerk or a Deed of no byte.
		"- | ", " | -", "- |  | -", "read x | ", " | read x", "read x |  | read y", "read x; ", "; read x", "read x; ; read y", "read x; | read y", "read x;  | read y",
		// Blanks, ; and | too many or too few.
		"- |-", "-| -", "-|-", "-  | -", "- |  -", "- || -", "- | | -", "-; -", "- -", "- | -|-", "-\t|\t-",
		"read x|read y", "read x |read y", "read x| read y", "read x  | read y", "read x |  read y", "read x || read y", "read x | | read y", "read x | read y |", "read x | read y | ", "| read x",
		"read x;read y", "read x ;read y", "read x ; read y", "read x;  read y", "read x;; read y", "read x; read y;", "read x; read y; ", ";read x", "read x read y", "read x, read y",
		" read x", "read x ", " read x | read y", "read x | read y ", "read x\n", "read x | read y\n", "read x;\nread y", "read x\n| read y",
		// - beside Deeds.
		"-; read x", "read x; -", "read x; -; read y", "- read x", "read x -", "-read x", "read x | -; read y", "read x | read y; -", "- | - read x", "read -", "write x -1", "-wait",
		// One byte off a right Deed.
		"reed x", "read w", "read x | reed x", "wait; wai", "write x 0", "write x 10", "read x in 0 | wait", "swap x 1 in 1", "wait | wait in 1", "read x; Wait", "write x 01; wait",
		// Not WorkOk.
		"wait; wait; wait; wait; wait; wait", "- | - | wait; wait; wait; wait; wait; wait",
		"wait; wait; wait; wait; wait | wait; wait; wait; wait; wait | wait; wait; wait",
		"swap x 1; swap x 1; swap x 1; read x", "read x; read x; read x; read x; read x | read x; read x", "read x; swap x 1 | read x; swap x 1 | write x 1",
		"read x in 1; wait; read x in 1", "read x in 1; read x; read y in 1", "read x in 1; read x in 2; read x in 1",
		"read x in 1 | read y in 1", "read x in 1 | - | write y 1 in 1",
		// Bytes past 127, and what looks alike.
		"\xff", "\x80", "-\xff", "wait\xff", "\xffwait", "read x | \xff", "read x\xa0| read y", "read x\u00a0| read y", "read x \u2223 read y", "read x\u037e read y", "\u2013", "\u2212", "read x; w\xe1it", "\ufeff-",
	} {
		mustNotReadWork(t, text)
		mustReadWork(t, text)
	}
}

// rightWorks are texts of works with each thing that a text may have.
func rightWorks() []string {
	return []string{
		"-", "wait", "- | -", "- | - | -", "read x", "read x | -", "- | read z in 9", "wait; wait", "wait | wait | wait",
		"write x 1; read y | write y 1; read x",
		"write x 1; read y in 1; read x in 1 | - | swap y 2",
		"swap x 1; swap y 2; swap z 3", "swap x 1 | swap y 2 | swap z 3",
		"read x in 1; read x in 2 | read x in 3; write y 4 in 3",
		"wait; wait; wait; wait; wait | wait; wait; wait; wait; wait | wait; wait",
		"read x; read y; read z; write x 9; write y 8 | write z 7",
	}
}

// Of each such text: one byte taken away, another one in its place, one more.
func TestReadWorkOneByteOff(t *testing.T) {
	for _, text := range rightWorks() {
		if !mustReadWork(t, text) {
			t.Errorf("%q should be some work's", text)
		}
		for at := 0; at <= len(text); at++ {
			if at < len(text) {
				mustReadWork(t, text[:at]+text[at+1:])
			}
			for b := range 256 {
				one := string([]byte{byte(b)})
				mustReadWork(t, text[:at]+one+text[at:])
				if at < len(text) {
					mustReadWork(t, text[:at]+one+text[at+1:])
				}
			}
		}
	}
}

// Two right texts with something between, and one with something around it.
func TestReadWorkOfTwoTexts(t *testing.T) {
	betweens := []string{"", " ", ";", "; ", " ; ", ";;", "|", " |", "| ", " | ", "  |  ", " || ", " | | ", " | - | ", "; -; ", "-", " - ", "; | ", " | ; ", "\n"}
	for _, one := range rightWorks() {
		for _, between := range betweens {
			mustReadWork(t, one+between)
			mustReadWork(t, between+one)
			for _, other := range rightWorks() {
				mustReadWork(t, one+between+other)
			}
		}
	}
}

// piecewise asks of the text and of all that come of it by at most that many pieces more, and tells how many are some work's.
func piecewise(t *testing.T, text string, pieces []string, more int) int {
	read := 0
	if mustReadWork(t, text) {
		read++
	}
	if more == 0 {
		return read
	}
	for _, piece := range pieces {
		read += piecewise(t, text+piece, pieces, more-1)
	}
	return read
}

func TestReadWorkPieceByPiece(t *testing.T) {
	if read := piecewise(t, "", []string{"wait", "read x in 1", "-", ";", "|", " ", "; ", " | "}, 5); read == 0 {
		t.Error("no work was met")
	}
	// With nothing but what parts and what is parted, longer texts can be asked.
	if read := piecewise(t, "", []string{"swap y 1", "-", "; ", " | "}, 7); read == 0 {
		t.Error("no work was met")
	}
}

func TestReadWorkOfShortTexts(t *testing.T) {
	read := 0
	for a := range 256 {
		if mustReadWork(t, string([]byte{byte(a)})) {
			read++
		}
		for b := range 256 {
			mustNotReadWork(t, string([]byte{byte(a), byte(b)}))
		}
	}
	if read != 1 {
		t.Errorf("%d works of one byte", read)
	}
}

func TestReadWorkOfLongTexts(t *testing.T) {
	for _, text := range []string{
		strings.Repeat("-", 1<<20),
		strings.Repeat(" ", 1<<20),
		strings.Repeat("- | ", 1<<18) + "-",
		strings.Repeat(" | ", 1<<18),
		strings.Repeat("; ", 1<<18),
		strings.Repeat("wait; ", 1<<18) + "wait",
		"wait | " + strings.Repeat("wait; ", 1<<18) + "wait",
		strings.Repeat("\xff", 1<<20),
		"read x | " + strings.Repeat("y", 1<<20),
		"write x " + strings.Repeat("1", 1<<20) + " | -",
	} {
		mustNotReadWork(t, text)
	}
}

// A text may be a piece of a longer one: what stands around it is not asked.
func TestReadWorkOfAPiece(t *testing.T) {
	whole := "read x | wait; -"
	if w, ok := impl.ReadWork(whole[:13]); !ok || !sameWork(w, workOf(clerkOf("read x"), clerkOf("wait"))) {
		t.Error(w, ok)
	}
	mustNotReadWork(t, whole[:14])
	mustNotReadWork(t, whole)
}

func TestWaitedByHand(t *testing.T) {
	for _, c := range []struct{ given, want string }{
		{"-", "-"}, {"- | - | -", "- | - | -"},
		// Waits ahead, behind and between.
		{"wait", "-"}, {"wait; wait; wait; wait; wait | wait", "- | -"},
		{"wait; read x", "read x"}, {"read x; wait", "read x"}, {"wait; wait; read x; wait; wait", "read x"},
		{"wait; read x; wait; wait; read y", "read x; wait; read y"}, {"read x; wait; read y; wait", "read x; wait; read y"},
		{"read x", "read x"}, {"read x; read y", "read x; wait; read y"}, {"read x; wait; read y", "read x; wait; read y"},
		// Groups, alone and with others and waits around them.
		{"read x in 1", "read x"}, {"write y 7 in 1; read x in 1", "write y 7; wait; read x"},
		{"read x in 1; read y in 1; read z in 2", "read x; wait; read y; wait; read z"},
		{"wait; read x in 1; read y in 1; wait; write z 9", "read x; wait; read y; wait; write z 9"},
		{"read x; read y in 9; wait | wait; read x in 1 | swap x 3", "read x; wait; read y | read x | swap x 3"},
		{"swap x 1; swap y 2; swap z 3", "swap x 1; wait; swap y 2; wait; swap z 3"},
		{"read x; read y; read z | write x 1; write y 2; write z 3", "read x; wait; read y; wait; read z | write x 1; wait; write y 2; wait; write z 3"},
		// More than 5 would come.
		{"read x; read y; read z; write x 1", ""}, {"- | read x in 1; read x in 1; read x in 1; read x in 1", ""},
		{"read x; read y; read z; write x 1; write y 2", ""}, {"read x; wait; read y; read z; write x 1", ""},
		{"read x | write y 1; read y; read z; write x 1 | -", ""},
	} {
		w, ok := workNamed(c.given)
		if !ok {
			t.Fatalf("%q is no work's", c.given)
		}
		got := impl.Waited(w)
		if s := impl.ShowWork(got); s != c.want || c.want == "" && len(got) != 0 {
			t.Errorf("Waited of %q is %v, want %q", c.given, got, c.want)
		}
		mustAnswer(t, w)
		// What is Waited has nothing left to be taken away or put between.
		if again := impl.Waited(got); !sameWork(again, got) {
			t.Errorf("Waited twice of %q is %v", c.given, again)
		}
	}
}

// mark stands in the room around a work; no function may write over it.
var mark = impl.Deed{Kind: 77, Place: -77, Value: 777, Group: 5}

// laidWork is a work whose clerks lie one behind the other on one floor, so that behind each there is room that is not its own.
type laidWork struct {
	floor  []impl.Deed
	clerks [][]impl.Deed
	given  [][]impl.Deed
}

func laid(w [][]impl.Deed) laidWork {
	size := 3
	for _, list := range w {
		size += len(list) + 3
	}
	l := laidWork{floor: make([]impl.Deed, 0, size)}
	for _, list := range w {
		from := len(l.floor)
		l.floor = append(l.floor, list...)
		l.clerks = append(l.clerks, l.floor[from:])
		l.floor = append(l.floor, mark, mark, mark)
	}
	l.floor = append(l.floor, mark, mark, mark)
	l.clerks = append(l.clerks, l.floor[size-1:], l.floor[size-2:])
	l.given = l.clerks[:len(w)]
	return l
}

func (l laidWork) copied() laidWork {
	return laidWork{floor: append([]impl.Deed{}, l.floor...), clerks: append([][]impl.Deed{}, l.clerks...)}
}

// isAs holds the floor against the copy by what stands there, the clerks by where they lie, too.
func (l laidWork) isAs(before laidWork) bool {
	if !sameWork([][]impl.Deed{l.floor}, [][]impl.Deed{before.floor}) || !sameWork(l.clerks, before.clerks) {
		return false
	}
	for c, list := range l.clerks {
		if cap(list) != cap(before.clerks[c]) || cap(list) > 0 && &list[:1][0] != &before.clerks[c][:1][0] {
			return false
		}
	}
	return true
}

// memoryWorks are right and wrong, with clerks of which nothing changes when they are Waited.
func memoryWorks() [][][]impl.Deed {
	works := [][][]impl.Deed{
		nil, {}, {{}, {}, {}, {}}, {clerkOf(times(6, "wait")...)}, {clerkOf("read x"), {{}}}, {clerkOf("read x in 1"), clerkOf("read y in 1")},
		{clerkOf("read x in 1", "wait", "read x in 1"), clerkOf("wait")}, {clerkOf("read x", "read y", "read z", "write x 1"), clerkOf("wait", "wait")},
	}
	for _, text := range append(rightWorks(), "read x; wait; read y | read z | wait", "write x 1 in 2; write y 1 in 2 | wait; wait; read x in 3; wait") {
		works = append(works, clerksNamed(text))
	}
	return works
}

func clerksNamed(text string) [][]impl.Deed {
	w, is := workNamed(text)
	if !is {
		panic(text + " is no work's text")
	}
	return w
}

func TestWorkLeavesItsArgumentsAlone(t *testing.T) {
	for _, w := range memoryWorks() {
		l := laid(w)
		before := l.copied()
		mustAnswer(t, l.given)
		if !l.isAs(before) {
			t.Errorf("of %v is left %v on %v", w, l.clerks, l.floor)
		}
	}
}

// mustBeApart writes over each list of an answer, and the room behind it, and asks whether another list changed.
func mustBeApart(t *testing.T, answer [][]impl.Deed) {
	t.Helper()
	for c := range answer {
		before := copiedWork(answer)
		list := answer[c][:cap(answer[c])]
		for i := range list {
			list[i] = mark
		}
		answer[c], before[c] = nil, nil
		if !sameWork(answer, before) {
			t.Errorf("list %d shares memory with another one: %v, was %v", c, answer, before)
		}
	}
	room := answer[:cap(answer)]
	for c := range room {
		room[c] = []impl.Deed{mark}
	}
}

func TestWaitedIsNewMemory(t *testing.T) {
	for _, w := range memoryWorks() {
		l := laid(w)
		before := l.copied()
		one, other := impl.Waited(l.given), impl.Waited(l.given)
		want := copiedWork(other)
		mustBeApart(t, one)
		if !l.isAs(before) {
			t.Errorf("Waited(%v) shares memory with its argument", w)
		}
		if !sameWork(other, want) || !sameWork(impl.Waited(l.given), want) {
			t.Errorf("two answers of Waited(%v) share memory", w)
		}
	}
}

// One list may be several clerks': each has an answer of its own.
func TestWaitedOfOneListForAllClerks(t *testing.T) {
	for _, list := range [][]impl.Deed{{}, clerkOf("read x"), clerkOf("read x", "write y 1"), clerkOf("wait", "swap x 1")} {
		w := workOf(list, list, list)
		mustBeWork(t, w)
		mustBeApart(t, impl.Waited(w))
		mustBeWork(t, w)
	}
}

func TestReadWorkIsNewMemory(t *testing.T) {
	for _, text := range append(rightWorks(), "", "read x |read y", "- | - | - | -", "wait; wait; wait; wait; wait; wait") {
		one, _ := impl.ReadWork(text)
		other, _ := impl.ReadWork(text)
		want := copiedWork(other)
		mustBeApart(t, one)
		if !sameWork(other, want) {
			t.Errorf("two answers of ReadWork(%q) share memory", text)
		}
		mustReadWork(t, text)
	}
}
