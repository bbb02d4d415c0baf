package tests

import (
	"strings"
	"testing"

	"loop.example/g00411/impl"
)

// lines are what chapter 7 tells of one work.
type lines struct {
	behind, atOnePlace, kept []int64
}

func linesFound(w [][]impl.Deed) lines {
	return lines{behind: impl.Behind(w), atOnePlace: impl.AtOnePlace(w), kept: impl.Kept(w)}
}

func (l lines) all() [][]int64 { return [][]int64{l.behind, l.atOnePlace, l.kept} }

func (l lines) areAs(other lines) bool {
	return sameList(l.behind, other.behind) && sameList(l.atOnePlace, other.atOnePlace) && sameList(l.kept, other.kept)
}

// linesTold asks each two Events by what they and their Deeds are, whatever order they come in.
func linesTold(w [][]impl.Deed) lines {
	list := eventsTold(w)
	behind := func(i, j int) bool {
		begins, one, other := list[i].Clerk < 0, list[i], list[j]
		if other.Clerk < 0 || !begins && one.Clerk != other.Clerk {
			return false
		}
		// Of a swap the read comes first; of two Deeds the one that is told first.
		return begins || one.Deed < other.Deed || one.Deed == other.Deed && one.Reads && !other.Reads
	}
	return lines{
		behind:     drawn(len(list), behind),
		atOnePlace: drawn(len(list), func(i, j int) bool { return behind(i, j) && list[i].Place == list[j].Place }),
		kept:       drawn(len(list), func(i, j int) bool { return behind(i, j) && !mayRunAhead(w, list[i], list[j]) }),
	}
}

// mayRunAhead is of an earlier and a later event of one clerk.
func mayRunAhead(w [][]impl.Deed, write impl.Event, read impl.Event) bool {
	if write.Clerk < 0 || write.Reads || !read.Reads || write.Class == read.Class {
		return false
	}
	clerk := w[write.Clerk]
	for _, of := range []impl.Deed{clerk[write.Deed], clerk[read.Deed]} {
		if of.Kind == 3 || of.Group > 0 {
			return false
		}
	}
	return waitsAhead(clerk, write.Deed) == waitsAhead(clerk, read.Deed)
}

// waitsAhead counts: where two have as many ahead of them, none stands between.
func waitsAhead(clerk []impl.Deed, deed int64) int {
	n := 0
	for i, d := range clerk {
		if int64(i) < deed && d.Kind == 4 {
			n++
		}
	}
	return n
}

// linesNamed has a line for each word: its two digits are the numbers of the two events, as no work has more than 9.
func linesNamed(n int, words string) []int64 {
	g := gridOf(make([]int64, n))
	for word := range strings.FieldsSeq(words) {
		g[word[0]-'0'][word[1]-'0'] = true
	}
	return g.web()
}

// withBeginnings draws the lines that each work has, whoever does what.
func withBeginnings(r []int64) []int64 {
	g := gridOf(r)
	for i := 0; i < 3; i++ {
		for j := 3; j < len(g); j++ {
			g[i][j] = true
		}
	}
	return g.web()
}

// mustHaveLines holds all that chapter 7 tells of a work, or of what is none, against what the test tells; it answers how many lines are not Kept.
func mustHaveLines(t *testing.T, w [][]impl.Deed) int {
	t.Helper()
	got, want := linesFound(w), linesTold(w)
	if !got.areAs(want) {
		t.Fatalf("of %v: %v, want %v", w, got, want)
	}
	// Promise 7, by the program's own answers.
	if !within(got.kept, got.behind) || !within(got.atOnePlace, got.behind) {
		t.Fatalf("of %v: %v", w, got)
	}
	waited := impl.Waited(w)
	if all, kept := impl.Behind(waited), impl.Kept(waited); !sameList(all, kept) {
		t.Fatalf("of %v: behind %v, kept %v", waited, all, kept)
	}
	return countLines(got.behind) - countLines(got.kept)
}

func countLines(r []int64) int {
	n := 0
	for _, s := range r {
		n += len(bitsOf(s))
	}
	return n
}

// Promise 7: one clerk of each sort.
func TestKeptAreOfBehind(t *testing.T) {
	some := clerkOf("write x 1", "read x", "read y", "wait", "swap y 2", "write z 3 in 1", "read x in 1", "read y in 2")
	met := map[int]int{}
	for _, one := range clerksOf(some, 5) {
		met[mustHaveLines(t, workOf(one))]++
	}
	// Two writes ahead of three reads, or three ahead of two, lose the most that five events can.
	for n := range 8 {
		if is := n <= 6; is != (met[n] > 0) {
			t.Errorf("%d works with %d lines that are not kept", met[n], n)
		}
	}
}

// Promise 7: two and three clerks, some of them without Deeds.
func TestKeptOfSeveralClerks(t *testing.T) {
	some := append(clerksOf(clerkOf("write x 1", "read x", "wait", "swap x 2"), 2), clerkOf("write y 4", "wait", "read z"), clerkOf("write x 1 in 1", "read y"), clerkOf("write z 1", "read z in 2"), clerkOf("write x 5", "read y", "read x"), nil)
	met := map[int]int{}
	for _, one := range some {
		for _, two := range some {
			met[mustHaveLines(t, workOf(one, two))]++
			for _, three := range some {
				met[mustHaveLines(t, workOf(one, two, three))]++
			}
		}
	}
	for n := range 5 {
		if met[n] == 0 {
			t.Errorf("no work with %d lines that are not kept", n)
		}
	}
	for _, one := range mixedClerks() {
		for _, two := range mixedClerks() {
			mustHaveLines(t, workOf(one, two))
			mustHaveLines(t, workOf(two, nil, one))
		}
	}
}

// Each right Deed ahead of and behind others, and each one that is one number off.
func TestLinesOfEveryDeed(t *testing.T) {
	for d := range shownDeeds {
		mustHaveLines(t, workOf([]impl.Deed{d}))
		mustHaveLines(t, workOf([]impl.Deed{d, d}, nil, []impl.Deed{d}))
		for other := range shownDeeds {
			mustHaveLines(t, workOf([]impl.Deed{d, other}))
		}
		mustHaveLines(t, workOf(clerkOf("read z"), append(append(clerkOf("write x 1"), d), clerkOf("read x", "read y")...)))
		kind, place, value, group := d, d, d, d
		for _, n := range append([]int64{-1, 1, 2, 4, 9}, far...) {
			kind.Kind, place.Place, value.Value, group.Group = d.Kind+n, d.Place+n, d.Value+n, d.Group+n
			for _, other := range []impl.Deed{kind, place, value, group} {
				mustHaveLines(t, workOf([]impl.Deed{other}))
				mustHaveLines(t, workOf(clerkOf("write x 1", "read y"), []impl.Deed{d, other}))
			}
		}
	}
}

func TestLinesAtEachLimit(t *testing.T) {
	longest := 0
	for _, one := range evenClerks(6) {
		for _, two := range evenClerks(6) {
			for _, w := range [][][]impl.Deed{workOf(one, two), workOf(one, two, one)} {
				mustHaveLines(t, w)
				longest = max(longest, len(impl.Behind(w)), len(impl.AtOnePlace(w)), len(impl.Kept(w)))
			}
		}
	}
	if longest != 9 {
		t.Errorf("webs of at most %d", longest)
	}
}

func TestBehindByHand(t *testing.T) {
	for _, c := range []struct {
		text   string
		events int
		want   string
	}{
		// The first three by themselves have no lines.
		{"-", 3, ""}, {"wait", 3, ""}, {"- | wait; wait | -", 3, ""},
		{"read x", 4, ""}, {"write z 1", 4, ""}, {"- | - | read y", 4, ""},
		{"read x; read y", 5, "34"}, {"write x 1; write y 1", 5, "34"}, {"write x 1; read x", 5, "34"}, {"read x; write x 1", 5, "34"},
		{"swap x 1", 5, "34"},
		{"read x | read x", 5, ""}, {"write x 1 | read x", 5, ""}, {"read x | - | write x 1", 5, ""},
		{"write x 1; read y | write y 1; read x", 7, "34 56"},
		{"write x 1; wait; read y | wait; write y 1; wait; wait; read x", 7, "34 56"},
		{"read x; read y; read z", 6, "34 35 45"},
		{"read x in 1; write y 1 in 1; read z", 6, "34 35 45"},
		{"swap x 1; swap y 1", 7, "34 35 36 45 46 56"},
		{"swap x 1 | swap x 1 | swap x 1", 9, "34 56 78"},
		{"read x; swap y 2 | - | write z 3; read z", 8, "34 35 45 67"},
		{"- | write x 1; read y; read x | read z", 7, "34 35 45"},
		// Six events: of one clerk, two and two clerks, five and one.
		{"swap x 1; swap y 2; swap z 3", 9, "34 35 36 37 38 45 46 47 48 56 57 58 67 68 78"},
		{"read x; read y; read z | write x 1; write y 1; write z 1", 9, "34 35 45 67 68 78"},
		{"write x 1; read x; write x 2; read x; write x 3 | read x", 9, "34 35 36 37 45 46 47 56 57 67"},
		{"read x; wait; read x | write x 1; wait; write x 2 | swap x 3", 9, "34 56 78"},
	} {
		w := clerksNamed(c.text)
		if got, want := impl.Behind(w), withBeginnings(linesNamed(c.events, c.want)); !sameList(got, want) {
			t.Errorf("Behind %q is %v, want %v", c.text, got, want)
		}
		mustHaveLines(t, w)
	}
}

func TestAtOnePlaceByHand(t *testing.T) {
	for _, c := range []struct {
		text   string
		events int
		want   string
	}{
		{"-", 3, ""}, {"wait; wait | -", 3, ""},
		{"read x", 4, "03"}, {"read y", 4, "13"}, {"read z", 4, "23"}, {"write x 1", 4, "03"}, {"write y 1", 4, "13"}, {"write z 1", 4, "23"},
		{"swap x 9", 5, "03 04 34"}, {"swap y 9", 5, "13 14 34"}, {"swap z 9", 5, "23 24 34"},
		{"write x 1; read x", 5, "03 04 34"}, {"write x 1; read y", 5, "03 14"}, {"write y 1; read x", 5, "13 04"}, {"write z 1; read x", 5, "23 04"},
		{"read z; write z 3", 5, "23 24 34"}, {"read y; read y", 5, "13 14 34"}, {"write z 1; write z 2", 5, "23 24 34"}, {"write y 1; write z 1", 5, "13 24"},
		// A wait is at place 0 in its Deed, and no event there.
		{"write x 1; wait; read x", 5, "03 04 34"}, {"wait; read y; wait; read z", 5, "13 24"},
		{"write x 1; read y; read x", 6, "03 05 14 35"}, {"read y; write x 1; write y 2", 6, "13 15 04 35"},
		// One place, two clerks.
		{"write x 1 | read x", 5, "03 04"}, {"swap y 1 | - | swap y 2", 7, "13 14 15 16 34 56"},
		{"write x 1; read y | write y 1; read x", 7, "03 14 15 06"},
		{"swap x 1; swap y 2; swap x 3", 9, "03 04 34 15 16 56 07 08 37 38 47 48 78"},
		{"write x 1 in 1; read x in 1; read y in 1", 6, "03 04 34 15"},
		{"read x; read y; read z; write x 1; write y 2 | write z 3", 9, "03 14 25 06 17 36 47 28"},
	} {
		w := clerksNamed(c.text)
		if got, want := impl.AtOnePlace(w), linesNamed(c.events, c.want); !sameList(got, want) {
			t.Errorf("AtOnePlace %q is %v, want %v", c.text, got, want)
		}
		mustHaveLines(t, w)
	}
}

// What is told is what of Behind is not Kept.
func TestKeptByHand(t *testing.T) {
	for _, c := range []struct {
		text string
		lost string
	}{
		// A write and a later read, at one place and at two; with others between.
		{"write x 1; read x", "34"}, {"write x 1; read y", "34"}, {"write z 9; read y", "34"}, {"- | - | write y 1; read y", "34"},
		{"write x 1; read y; read z", "34 35"}, {"write x 1; write y 1; read z", "35 45"}, {"write x 1; read x; write x 2; read x", "34 36 56"},
		{"write x 1; write y 1; write z 1; read x; read y", "36 37 46 47 56 57"}, {"write x 1; write x 2; read x; read x; read x", "35 36 37 45 46 47"},
		// A wait just behind the write, just ahead of the read, in the middle, and more than one.
		{"write x 1; wait; read x", ""}, {"write x 1; wait; read y", ""}, {"write x 1; wait; wait; read y", ""},
		{"write x 1; wait; write y 1; read z", "45"}, {"write x 1; write y 1; wait; read z", ""}, {"write x 1; read y; wait; read z", "34"},
		{"write x 1; wait; read y; read z", ""}, {"write x 1; read y; wait; write y 1; read z", "34 56"},
		{"write x 1; write y 1; wait; read x; read y", ""}, {"write x 1; wait; write y 1; wait; read x", ""},
		// A wait that is not between: ahead of both, behind both, another clerk's.
		{"wait; write x 1; read y", "34"}, {"write x 1; read y; wait", "34"}, {"wait; write x 1; read y; wait", "34"},
		{"write x 1; read y | wait", "34"}, {"wait | write x 1; read y | wait; wait", "34"}, {"write x 1; read y | write y 1; wait; read x", "34"}, {"read x; wait; wait | write y 1; wait; read x | write y 1; read x", "67"},
		// What is no read behind a write.
		{"read x; write x 1", ""}, {"read x; read x", ""}, {"write x 1; write x 2", ""}, {"read x; read y; write z 1; write x 1", ""}, {"read y; write x 1; read z", "45"},
		{"write x 1 | read x", ""}, {"write x 1 | read y | read x", ""},
		// Swaps: their own two, ahead, behind, and between what they do not keep.
		{"swap x 1", ""}, {"swap x 1; swap y 1", ""}, {"swap x 1; read x", ""}, {"swap x 1; read y", ""}, {"write x 1; swap x 2", ""}, {"write x 1; swap y 2", ""},
		{"write x 1; swap y 2; read z", "36"}, {"swap y 2; write x 1; read z", "56"}, {"write x 1; read z; swap y 2", "34"}, {"write x 1; swap x 1; wait; read x", ""},
		{"swap x 1; swap y 2; swap z 3", ""},
		// Groups: of the write, of the read, of both, of two; and between what they do not keep.
		{"write x 1 in 1; read y", ""}, {"write x 1; read y in 1", ""}, {"write x 1 in 1; read y in 1", ""}, {"write x 1 in 1; read x in 1", ""}, {"write x 1 in 1; read y in 2", ""}, {"write x 1 in 9; read x in 9; read x", ""},
		{"write x 1; write y 1 in 1; read z", "35"}, {"write x 1; read y in 1; read z", "35"}, {"write x 1; write y 1 in 1; read z in 1; read x", "36"}, {"write x 1 in 1; write y 1; read z", "45"}, {"write x 1; read y; read z in 1", "34"},
		{"write x 1 in 1; read y in 1 | write y 1; read x", "56"}, {"write x 1; read y in 3 | write y 1 in 4; read x | write z 1; read z", "78"},
		// Six events.
		{"write x 1; read y | write y 1; read z | write z 1; read x", "34 56 78"}, {"write x 1; read y; write x 2; read z; read x | write z 1", "34 36 37 56 57"},
		{"write x 1; read y; swap z 2 | - | write z 1; read z", "34 78"},
		// No work loses a line from the first three.
		{"read x; read y; read z", ""}, {"read x | read y | read z", ""}, {"-", ""}, {"wait | - | wait", ""},
	} {
		w := clerksNamed(c.text)
		behind := impl.Behind(w)
		lost, kept := linesNamed(len(behind), c.lost), impl.Kept(w)
		g := gridOf(behind)
		for i := range lost {
			for _, j := range bitsOf(lost[i]) {
				if !g[i][j] {
					t.Errorf("Behind %q has no line from %d to %d", c.text, i, j)
				}
				g[i][j] = false
			}
		}
		if want := g.web(); !sameList(kept, want) {
			t.Errorf("Kept %q is %v, want %v", c.text, kept, want)
		}
		mustHaveLines(t, w)
	}
}

// Promise 7: what Waited made keeps all, and at least some of it had lost lines.
func TestWaitedKeepsAll(t *testing.T) {
	made, mended := 0, 0
	for _, one := range clerksOf(clerkOf("write x 1", "read y", "swap z 2", "read x in 1"), 3) {
		for _, two := range clerksOf(clerkOf("write y 1", "read x", "wait"), 2) {
			w := workOf(one, nil, two)
			waited := impl.Waited(w)
			if len(waited) == 0 {
				continue
			}
			made++
			behind, kept := impl.Behind(waited), impl.Kept(waited)
			if !sameList(behind, kept) || len(behind) < 3 {
				t.Errorf("of %v: behind %v, kept %v", waited, behind, kept)
			}
			if !sameList(impl.Kept(w), impl.Behind(w)) {
				mended++
			}
		}
	}
	if made < 100 || mended < 20 {
		t.Errorf("%d works, %d of which had lost a line", made, mended)
	}
}

func TestLinesOfWhatIsNoWork(t *testing.T) {
	for _, w := range wrongWorks() {
		for _, r := range linesFound(w).all() {
			if len(r) != 0 {
				t.Errorf("of %v: %v", w, r)
			}
		}
		mustHaveLines(t, w)
	}
	const long = 1 << 20
	clerks := make([][]impl.Deed, long)
	mustHaveLines(t, clerks)
	mustHaveLines(t, clerks[:4])
	mustHaveLines(t, clerks[:3])
	for _, d := range []impl.Deed{{}, {Kind: 1}, {Kind: 2, Value: 1}, {Kind: 4}, {Kind: 1, Group: 1}, {Kind: 3, Value: 1}} {
		list := make([]impl.Deed, long)
		for i := range list {
			list[i] = d
		}
		mustHaveLines(t, workOf(list))
		mustHaveLines(t, workOf(nil, list, nil))
		mustHaveLines(t, workOf(list, list, list))
	}
}

// lineWorks are those of memoryWorks, and some that lose lines.
func lineWorks() [][][]impl.Deed {
	works := append(memoryWorks(), wrongWorks()...)
	for _, text := range []string{"write x 1; read y; wait; read x", "write x 1; write y 2; read z | - | write z 3; read x", "write x 1; read x in 1; read y | swap x 2"} {
		works = append(works, clerksNamed(text))
	}
	return works
}

func TestLinesLeaveTheirArgumentsAlone(t *testing.T) {
	for _, w := range lineWorks() {
		l := laid(w)
		before := l.copied()
		mustHaveLines(t, l.given)
		if !l.isAs(before) {
			t.Errorf("of %v is left %v on %v", w, l.clerks, l.floor)
		}
	}
}

func TestLinesAreNewMemory(t *testing.T) {
	for _, w := range lineWorks() {
		l := laid(w)
		before := l.copied()
		ones, others := linesFound(l.given), linesFound(l.given)
		for _, one := range ones.all() {
			room := one[:cap(one)]
			for i := range room {
				room[i] = 77
			}
		}
		if want := linesTold(w); !others.areAs(want) || !linesFound(l.given).areAs(want) {
			t.Errorf("two answers of %v share memory", w)
		}
		if !l.isAs(before) {
			t.Errorf("an answer of %v shares memory with it", w)
		}
	}
}

// One list may be several clerks': no line goes from one to the other.
func TestLinesOfOneListForAllClerks(t *testing.T) {
	for _, list := range [][]impl.Deed{{}, clerkOf("read x"), clerkOf("write x 1", "read y"), clerkOf("write x 1", "wait", "read x"), clerkOf("swap x 1"), clerkOf("read x in 1")} {
		mustHaveLines(t, workOf(list, list))
		mustHaveLines(t, workOf(list, list, list))
	}
}
