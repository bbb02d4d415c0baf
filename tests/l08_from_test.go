package tests

import (
	"testing"

	"loop.example/g00411/impl"
)

// isSource asks each write by what it is, not by whether it stands in some list; Events there are none of what is no work.
func isSource(list []impl.Event, from []int64) bool {
	reads := readsTold(list)
	if len(list) == 0 || len(from) != len(reads) {
		return false
	}
	for i, n := range from {
		if n < 0 || n >= int64(len(list)) || list[n].Reads || list[n].Place != list[reads[i]].Place {
			return false
		}
	}
	return true
}

func sourcesCounted(list []impl.Event) int64 {
	if len(list) == 0 {
		return -1
	}
	n := int64(1)
	for _, read := range readsTold(list) {
		n *= int64(len(writesTold(list, list[read].Place)))
	}
	return n
}

// sourceTold takes n as a number with a digit for each read, the last read's behind; each digit has as many values as there are writes.
func sourceTold(list []impl.Event, n int64) []int64 {
	if n < 0 || n >= sourcesCounted(list) {
		return nil
	}
	reads := readsTold(list)
	from := make([]int64, len(reads))
	for i := len(reads) - 1; i >= 0; i-- {
		writes := writesTold(list, list[reads[i]].Place)
		from[i] = writes[n%int64(len(writes))]
		n /= int64(len(writes))
	}
	return from
}

func fromWebTold(list []impl.Event, from []int64) []int64 {
	if !isSource(list, from) {
		return nil
	}
	reads := readsTold(list)
	return drawn(len(list), func(i, j int) bool {
		for at, read := range reads {
			if from[at] == int64(i) && read == int64(j) {
				return true
			}
		}
		return false
	})
}

// mustJudgeSource answers whether the list is a source.
func mustJudgeSource(t *testing.T, w [][]impl.Deed, list []impl.Event, from []int64) bool {
	t.Helper()
	is := isSource(list, from)
	if got := impl.SourceOk(w, from); got != is {
		t.Fatalf("SourceOk(%v, %v) = %v", w, from, got)
	}
	if got, want := impl.FromWeb(w, from), fromWebTold(list, from); !sameList(got, want) {
		t.Fatalf("FromWeb(%v, %v) = %v, want %v", w, from, got, want)
	}
	return is
}

// mustHaveSources holds all that chapter 8 tells of a work, or of what is none, against what the test tells; it answers all sources, by how they are found.
func mustHaveSources(t *testing.T, w [][]impl.Deed) map[listKey]int64 {
	t.Helper()
	list, met := eventsTold(w), map[listKey]int64{}
	count := sourcesCounted(list)
	if got := impl.SourcesCount(w); got != count {
		t.Fatalf("SourcesCount(%v) = %d, want %d", w, got, count)
	}
	for n := range max(count, 0) {
		from := impl.SourceAt(w, n)
		if want := sourceTold(list, n); !sameList(from, want) {
			t.Fatalf("SourceAt(%v, %d) = %v, want %v", w, n, from, want)
		}
		if before, is := met[keyOf(from)]; is {
			t.Fatalf("SourceAt(%v, %d) = %v, as at %d", w, n, from, before)
		}
		met[keyOf(from)] = n
		if !mustJudgeSource(t, w, list, from) {
			t.Fatalf("SourceAt(%v, %d) = %v, which is none", w, n, from)
		}
	}
	for _, n := range append([]int64{-2, -1, count, count + 1, 2*count + 7, 1 << 32, 1<<32 + count, -1 << 32}, far...) {
		if got := impl.SourceAt(w, n); (n < 0 || n >= count) && len(got) != 0 {
			t.Fatalf("SourceAt(%v, %d) = %v", w, n, got)
		}
	}
	mustJudgeSource(t, w, list, nil)
	mustJudgeSource(t, w, list, []int64{0})
	return met
}

// mustTellAll asks every list of as many numbers as there are reads, from one below the first event to one past the last.
func mustTellAll(t *testing.T, w [][]impl.Deed) {
	t.Helper()
	met, list := mustHaveSources(t, w), eventsTold(w)
	found := 0
	for _, from := range listsOf(len(readsTold(list)), -1, int64(len(list))+1) {
		_, told := met[keyOf(from)]
		if is := mustJudgeSource(t, w, list, from); is != told {
			t.Fatalf("of %v: %v is a source: %v, and told: %v", w, from, is, told)
		}
		if told {
			found++
		}
	}
	if found != len(met) {
		t.Fatalf("of %v: %d of %d sources found", w, found, len(met))
	}
}

// mustRefuseOneOff takes each source and puts another number in one place, takes one away and puts one more.
func mustRefuseOneOff(t *testing.T, w [][]impl.Deed) {
	t.Helper()
	list := eventsTold(w)
	others := append([]int64{12, 63, 64, 1 << 32}, far...)
	for n := int64(-2); n < int64(len(list))+2; n++ {
		others = append(others, n)
	}
	for n := range max(impl.SourcesCount(w), 0) {
		from := impl.SourceAt(w, n)
		for i := range from {
			mustJudgeSource(t, w, list, append(copied(from[:i]), from[i+1:]...))
			for _, other := range others {
				changed := copied(from)
				changed[i] = other
				mustJudgeSource(t, w, list, changed)
			}
		}
		for _, other := range others {
			for i := range len(from) + 1 {
				longer := append(append(copied(from[:i]), other), from[i:]...)
				if mustJudgeSource(t, w, list, longer) {
					t.Fatalf("of %v: %v is a source", w, longer)
				}
			}
		}
	}
}

// Promise 8: one clerk, each list that could be a source.
func TestEachSourceIsOneAndAllAreTold(t *testing.T) {
	for _, one := range clerksOf(clerkOf("read x", "write x 1", "read y", "swap y 2", "wait"), 3) {
		mustTellAll(t, workOf(one))
	}
	for _, one := range clerksOf(clerkOf("read x in 1", "write x 1 in 1", "swap x 3"), 3) {
		mustTellAll(t, workOf(nil, one))
	}
}

// Promise 8: two and three clerks, each list that could be a source.
func TestAllSourcesOfSeveralClerksAreTold(t *testing.T) {
	some := append(clerksOf(clerkOf("read x", "write x 1", "swap x 2"), 1), clerkOf("write y 1", "read x"), clerkOf("read x", "wait", "write x 3"), clerkOf("read z", "read y"))
	for _, one := range some {
		for _, two := range some {
			mustTellAll(t, workOf(one, two))
			for _, three := range some {
				w := workOf(one, two, three)
				// Past three reads there are too many lists; those one number off are asked in their place.
				if len(readsTold(eventsTold(w))) > 3 {
					mustHaveSources(t, w)
					mustRefuseOneOff(t, w)
					continue
				}
				mustTellAll(t, w)
			}
		}
	}
}

// Promise 8: more of one clerk, and mixes with clerks that are not right.
func TestSourcesOfManyWorks(t *testing.T) {
	met := map[int]int{}
	for _, one := range clerksOf(clerkOf("write x 1", "read x", "read y", "wait", "swap y 2", "read x in 1"), 5) {
		met[len(mustHaveSources(t, workOf(one)))]++
	}
	for _, one := range mixedClerks() {
		for _, two := range mixedClerks() {
			met[len(mustHaveSources(t, workOf(one, two)))]++
			met[len(mustHaveSources(t, workOf(two, nil, one)))]++
		}
	}
	// So many of one clerk's five Deeds, and none of what is no work.
	for _, n := range []int{0, 1, 2, 3, 4, 6, 8, 9, 12, 16, 18, 27} {
		if met[n] == 0 {
			t.Errorf("no work with %d sources", n)
		}
	}
}

// Each right Deed beside others, and each one that is one number off.
func TestSourcesOfEveryDeed(t *testing.T) {
	for d := range shownDeeds {
		mustTellAll(t, workOf([]impl.Deed{d}))
		mustHaveSources(t, workOf([]impl.Deed{d, d}, nil, []impl.Deed{d}))
		mustHaveSources(t, workOf(clerkOf("read x", "read y"), append(clerkOf("swap z 1"), d)))
		kind, place, value, group := d, d, d, d
		for _, n := range append([]int64{-1, 1, 2, 4, 9}, far...) {
			kind.Kind, place.Place, value.Value, group.Group = d.Kind+n, d.Place+n, d.Value+n, d.Group+n
			for _, other := range []impl.Deed{kind, place, value, group} {
				mustHaveSources(t, workOf([]impl.Deed{other}))
				mustHaveSources(t, workOf(clerkOf("write x 1", "read y"), []impl.Deed{d, other}))
			}
		}
	}
}

func TestSourcesAtEachLimit(t *testing.T) {
	longest := 0
	for _, one := range evenClerks(6) {
		for _, two := range evenClerks(6) {
			for _, w := range [][][]impl.Deed{workOf(one, two), workOf(one, two, one)} {
				mustHaveSources(t, w)
				longest = max(longest, len(impl.SourceAt(w, 0)))
			}
		}
	}
	if longest != 6 {
		t.Errorf("sources of at most %d", longest)
	}
}

// Six events: reads and writes of each number, all at one place, by one clerk and by more.
func TestSourcesOfSixEvents(t *testing.T) {
	for reads, want := range []int64{1, 6, 25, 64, 81, 32, 1} {
		all := append(times(reads, "read y"), times(6-reads, "write y 7")...)
		for parted := 1; parted <= 5; parted++ {
			w := workOf(clerkOf(all[:parted]...), clerkOf(all[parted:]...))
			if got := impl.SourcesCount(w); got != want {
				t.Errorf("SourcesCount(%v) = %d, want %d", w, got, want)
			}
			mustHaveSources(t, w)
			mustRefuseOneOff(t, w)
		}
	}
	for _, text := range []string{
		"swap x 1; swap x 2; swap x 3", "swap x 1 | swap x 2 | swap x 3", "swap x 1; swap y 2 | swap z 3", "swap z 1; write z 2 | read z; swap y 3",
		"read x; read y; read z | write x 1; write y 2; write z 3", "write z 1; read z; write z 2; read z; write x 3 | read z",
		"read x in 1; write x 2 in 1; read x in 1 | read x in 2; write x 3 in 2; read x in 2",
	} {
		mustHaveSources(t, clerksNamed(text))
		mustRefuseOneOff(t, clerksNamed(text))
	}
}

// Six reads leave no event for a write: each is from one of the first three.
func TestSourcesOfSixReads(t *testing.T) {
	for text, want := range map[string][]int64{
		"read x; read y; read z; read x; read y | read z":                               {0, 1, 2, 0, 1, 2},
		"read z; read z | read y; read y | read x; read x":                              {2, 2, 1, 1, 0, 0},
		"read y; read y; read y | - | read y; wait; read y; read y":                     {1, 1, 1, 1, 1, 1},
		"read x in 1; read x in 1; read x in 1 | read x in 2; read x in 2; read x in 2": {0, 0, 0, 0, 0, 0},
	} {
		w := clerksNamed(text)
		if n, from := impl.SourcesCount(w), impl.SourceAt(w, 0); n != 1 || !sameList(from, want) {
			t.Errorf("%q has %d sources, the first one %v", text, n, from)
		}
		mustHaveSources(t, w)
		mustRefuseOneOff(t, w)
	}
}

// numbersNamed has a number for each digit, as no event of a work is past 8; 9 is past the last one.
func numbersNamed(word string) []int64 {
	list := []int64{}
	for _, digit := range word {
		list = append(list, int64(digit-'0'))
	}
	return list
}

func TestSourcesByHand(t *testing.T) {
	for _, c := range []struct {
		text string
		want []string
	}{
		// No reads: one source, an empty one.
		{"-", []string{""}}, {"- | - | -", []string{""}}, {"wait; wait | - | wait", []string{""}}, {"write x 1", []string{""}}, {"write x 1; write y 2 | write z 3; write x 4", []string{""}},
		{"read x", []string{"0"}}, {"read y", []string{"1"}}, {"read z", []string{"2"}}, {"wait; read z; wait | -", []string{"2"}},
		// Writes at the read's place and at others, of its own clerk and of another one, ahead and behind.
		{"write x 1; read x", []string{"0", "3"}}, {"read x; write x 1", []string{"0", "4"}}, {"write x 1; read y", []string{"1"}}, {"write y 1; read x; write z 1", []string{"0"}},
		{"write y 1 | read y", []string{"1", "3"}}, {"read y | write y 1", []string{"1", "4"}}, {"read x | write x 1; write x 2", []string{"0", "4", "5"}}, {"write z 1 | read z | write z 2", []string{"2", "3", "5"}},
		{"- | write z 1; wait | wait; read z", []string{"2", "3"}}, {"write x 1 in 1; read x in 1", []string{"0", "3"}}, {"read x in 1; write x 1 in 1", []string{"0", "4"}},
		{"write x 1; write x 1; read x", []string{"0", "3", "4"}},
		// The write of its own swap.
		{"swap x 1", []string{"0", "4"}}, {"swap z 1", []string{"2", "4"}}, {"swap y 1 | write y 2", []string{"1", "4", "5"}},
		// The last read's write changes first.
		{"read x; read y; read z", []string{"012"}}, {"read z; read y; read x", []string{"210"}},
		{"write x 1; read y | write y 1; read x", []string{"10", "13", "50", "53"}},
		{"read x; read x | write x 1", []string{"00", "05", "50", "55"}},
		{"swap x 1; read x", []string{"00", "04", "40", "44"}},
		{"read y; read x | write x 1; write y 2; write x 3", []string{"10", "15", "17", "60", "65", "67"}},
		{"read x; read y | write x 1; write y 2; write x 3", []string{"01", "06", "51", "56", "71", "76"}},
		{"swap x 1 | swap x 2", []string{"00", "04", "06", "40", "44", "46", "60", "64", "66"}},
		{"read x; read y | read x; write y 1; write x 2", []string{"010", "017", "060", "067", "710", "717", "760", "767"}},
		{"read z; write y 1 | read y; read x | write x 1; write z 2", []string{"210", "217", "240", "247", "810", "817", "840", "847"}},
		{"read x; read y; read x | swap y 4", []string{"0101", "0107", "0701", "0707"}},
	} {
		w := clerksNamed(c.text)
		if got := impl.SourcesCount(w); got != int64(len(c.want)) {
			t.Errorf("%q has %d sources, want %d", c.text, got, len(c.want))
		}
		for n, want := range c.want {
			if got := impl.SourceAt(w, int64(n)); !sameList(got, numbersNamed(want)) {
				t.Errorf("SourceAt(%q, %d) = %v, want %s", c.text, n, got, want)
			}
			if !impl.SourceOk(w, numbersNamed(want)) {
				t.Errorf("%s is no source of %q", want, c.text)
			}
		}
		mustHaveSources(t, w)
		mustRefuseOneOff(t, w)
	}
}

func TestSourceAtItsEnds(t *testing.T) {
	for text, ends := range map[string][2]string{
		"write x 1; read y | write y 1; read x":            {"10", "53"},
		"swap x 1 | swap x 2":                              {"00", "66"},
		"read x; read x; read x; read x; write x 1":        {"0000", "7777"},
		"read y; read y; read y; read y | swap y 1":        {"11111", "88888"},
		"write z 1; write z 2 | read z; read z | swap z 3": {"222", "888"},
		"write x 1": {"", ""},
	} {
		w := clerksNamed(text)
		last := impl.SourcesCount(w) - 1
		if first, got := impl.SourceAt(w, 0), impl.SourceAt(w, last); !sameList(first, numbersNamed(ends[0])) || !sameList(got, numbersNamed(ends[1])) {
			t.Errorf("of %q the first is %v, the last %v", text, first, got)
		}
		for _, n := range append([]int64{-1, -last, last + 1, last + 2}, far...) {
			if got := impl.SourceAt(w, n); n != 0 && len(got) != 0 {
				t.Errorf("SourceAt(%q, %d) = %v", text, n, got)
			}
		}
	}
}

func TestSourceOkByHand(t *testing.T) {
	// Reads are 4 (y), 5 (x, of the swap) and 8 (z); writes to x are 0, 3 and 6, to y 1 and 7, to z 2.
	w := clerksNamed("write x 1; read y; swap x 2 | write y 3; read z")
	for _, right := range []string{"102", "132", "162", "702", "732", "762"} {
		if !impl.SourceOk(w, numbersNamed(right)) {
			t.Errorf("%s should be a source", right)
		}
	}
	for _, wrong := range []string{
		// Too short, too long.
		"", "1", "10", "02", "7", "1021", "1020", "1022", "102102", "0102",
		// A read: itself, another one.
		"402", "502", "802", "142", "152", "182", "104", "105", "108", "456", "458",
		// A write at another place; one of the first three of another place.
		"302", "602", "172", "103", "106", "107", "002", "202", "112", "122", "100", "101", "012", "210",
		// Each would be right at another read.
		"012", "021", "201", "120", "672", "270",
		// Past the last event.
		"902", "192", "109", "999",
	} {
		if from := numbersNamed(wrong); impl.SourceOk(w, from) || len(impl.FromWeb(w, from)) != 0 {
			t.Errorf("%s should be no source: %v", wrong, impl.FromWeb(w, from))
		}
	}
	for _, n := range append([]int64{-1, -2, -3, -9, 9, 10, 11, 12, 13, 63, 64, 65, 128, 1 << 32, 1<<32 + 1, 1 << 62}, far...) {
		for i := range 3 {
			from := []int64{1, 0, 2}
			from[i] = n
			if impl.SourceOk(w, from) || len(impl.FromWeb(w, from)) != 0 {
				t.Errorf("%v should be no source", from)
			}
		}
	}
}

// A work without reads has the empty source, and no other.
func TestSourcesOfNoReads(t *testing.T) {
	for _, text := range []string{"-", "- | -", "- | - | -", "wait", "wait; wait | wait", "write x 1", "write x 1 in 1; write y 1 in 1 | write z 9"} {
		w := clerksNamed(text)
		if !impl.SourceOk(w, nil) || !impl.SourceOk(w, []int64{}) || impl.SourcesCount(w) != 1 || len(impl.SourceAt(w, 0)) != 0 {
			t.Errorf("%q should have one source, an empty one", text)
		}
		if got, want := impl.FromWeb(w, nil), emptyWeb(3+int(impl.EventsIn(w))); !sameList(got, want) {
			t.Errorf("FromWeb(%q) = %v", text, got)
		}
		for n := int64(-1); n < 10; n++ {
			if impl.SourceOk(w, []int64{n}) || len(impl.FromWeb(w, []int64{n})) != 0 {
				t.Errorf("%d should be no source of %q", n, text)
			}
		}
	}
}

func TestFromWebByHand(t *testing.T) {
	for _, c := range []struct {
		text, from string
		events     int
		want       string
	}{
		{"-", "", 3, ""}, {"write x 1 | write x 2", "", 5, ""},
		{"read x", "0", 4, "03"}, {"read y", "1", 4, "13"}, {"read z", "2", 4, "23"},
		// Two and more reads from one write.
		{"read x; read x | read x", "000", 6, "03 04 05"}, {"write x 1; read x; read x", "33", 6, "34 35"}, {"write x 1 | read x | read x", "33", 6, "34 35"}, {"read y; read y; read y; read y | swap y 1", "88888", 9, "83 84 85 86 87"},
		// From the first three beside another one, and from each of them.
		{"write x 1; read x; read x", "03", 6, "04 35"}, {"write x 1; read x; read x", "30", 6, "34 05"}, {"read z; read y; read x", "210", 6, "23 14 05"},
		// From its own clerk's later write, from another clerk.
		{"read x; write x 1", "4", 5, "43"}, {"write x 1 | read x", "3", 5, "34"}, {"read x | write x 1", "4", 5, "43"},
		{"write x 1; read y | write y 1; read x", "10", 7, "14 06"}, {"write x 1; read y | write y 1; read x", "50", 7, "54 06"}, {"write x 1; read y | write y 1; read x", "13", 7, "14 36"}, {"write x 1; read y | write y 1; read x", "53", 7, "54 36"},
		// From the write of its own swap, from another swap's, in a Group.
		{"swap x 1", "4", 5, "43"}, {"swap x 1", "0", 5, "03"}, {"swap y 1 | swap y 2", "46", 7, "43 65"}, {"swap y 1 | swap y 2", "64", 7, "63 45"}, {"swap y 1 | swap y 2", "44", 7, "43 45"}, {"swap y 1 | swap y 2", "14", 7, "13 45"},
		{"write x 1 in 1; read x in 1", "3", 5, "34"}, {"read x in 1; write x 1 in 1 | read x", "44", 6, "43 45"},
		{"swap x 1; swap x 2; swap x 3", "864", 9, "83 65 47"}, {"read x; read y; read z | write z 1; write y 2; write x 3", "876", 9, "83 74 65"},
	} {
		w := clerksNamed(c.text)
		if got, want := impl.FromWeb(w, numbersNamed(c.from)), linesNamed(c.events, c.want); !sameList(got, want) {
			t.Errorf("FromWeb(%q, %s) = %v, want %v", c.text, c.from, got, want)
		}
		mustHaveSources(t, w)
	}
}

func TestSourcesOfWhatIsNoWork(t *testing.T) {
	for _, w := range wrongWorks() {
		if n := impl.SourcesCount(w); n != -1 {
			t.Errorf("SourcesCount(%v) = %d", w, n)
		}
		for _, from := range [][]int64{nil, {}, {0}, {1}, {2}, {3}, {-1}, {0, 0}, {0, 0, 0}, {0, 1, 2}, {0, 0, 0, 0, 0}, {0, 0, 0, 0, 0, 0}, {0, 0, 0, 0, 0, 0, 0}} {
			if impl.SourceOk(w, from) || len(impl.FromWeb(w, from)) != 0 {
				t.Errorf("of %v: %v is a source, with %v", w, from, impl.FromWeb(w, from))
			}
		}
		for _, n := range append([]int64{-1, 0, 1, 2}, far...) {
			if got := impl.SourceAt(w, n); len(got) != 0 {
				t.Errorf("SourceAt(%v, %d) = %v", w, n, got)
			}
		}
		mustHaveSources(t, w)
	}
}

func TestSourcesOfVeryLongLists(t *testing.T) {
	const long = 1 << 20
	clerks, zeros := make([][]impl.Deed, long), make([]int64, long)
	mustHaveSources(t, clerks)
	mustHaveSources(t, clerks[:4])
	mustHaveSources(t, clerks[:3])
	for _, d := range []impl.Deed{{}, {Kind: 1}, {Kind: 2, Value: 1}, {Kind: 4}, {Kind: 1, Group: 1}, {Kind: 3, Value: 1}} {
		list := make([]impl.Deed, long)
		for i := range list {
			list[i] = d
		}
		for _, w := range [][][]impl.Deed{workOf(list), workOf(nil, list, nil), workOf(list, list, list)} {
			mustHaveSources(t, w)
			mustJudgeSource(t, w, nil, zeros)
		}
	}
	for _, text := range []string{"-", "read x", "write x 1; read x | swap x 2", "read x; read x; read x; read x; read x | read x"} {
		w := clerksNamed(text)
		for _, n := range []int{7, 12, 13, 64, 256, 257, long} {
			mustJudgeSource(t, w, eventsTold(w), zeros[:n])
		}
	}
}

// handedSources are lists of every kind: right for some work, wrong for each, empty and long.
func handedSources() [][]int64 {
	return [][]int64{nil, {0}, {1}, {2}, {3}, {-1}, {9}, {0, 0}, {1, 0}, {5, 3}, {0, 1}, {0, 0, 0}, {0, 1, 2}, {8, 6, 4}, {0, 1, 2, 0, 1}, {0, 0, 0, 0, 0, 0, 0}, far}
}

func TestSourcesLeaveTheirArgumentsAlone(t *testing.T) {
	for _, w := range lineWorks() {
		l, list := laid(w), eventsTold(w)
		before := l.copied()
		mustHaveSources(t, l.given)
		for _, from := range append(handedSources(), impl.SourceAt(w, 0), impl.SourceAt(w, impl.SourcesCount(w)-1)) {
			given, room := roomy(from)
			roomBefore := copied(room)
			mustJudgeSource(t, l.given, list, given)
			spoil(impl.FromWeb(l.given, given))
			if !sameList(room, roomBefore) {
				t.Errorf("of %v is left %v", roomBefore, room)
			}
		}
		if !l.isAs(before) {
			t.Errorf("of %v is left %v on %v", w, l.clerks, l.floor)
		}
	}
}

func TestSourcesAreNewMemory(t *testing.T) {
	for _, w := range lineWorks() {
		l, list := laid(w), eventsTold(w)
		before := l.copied()
		count := max(impl.SourcesCount(w), 0)
		// All are asked for ahead of the first one that is spoilt, so that two that lie in one memory are found.
		all, again, webs := [][]int64{}, [][]int64{}, [][]int64{}
		for n := range count {
			all = append(all, impl.SourceAt(l.given, n))
			again = append(again, impl.SourceAt(l.given, n))
			webs = append(webs, impl.FromWeb(l.given, again[n]))
		}
		for n := range count {
			from, want := all[n], sourceTold(list, n)
			if !sameList(from, want) || !sameList(again[n], want) || !sameList(webs[n], fromWebTold(list, want)) {
				t.Fatalf("of %v two answers share memory: %v, %v, %v, want %v", w, from, again[n], webs[n], want)
			}
			web := impl.FromWeb(l.given, from)
			spoil(webs[n])
			spoil(again[n])
			spoil(impl.SourceAt(l.given, n))
			if !sameList(from, want) || !sameList(web, fromWebTold(list, want)) {
				t.Fatalf("of %v two answers share memory: %v and %v, want %v", w, from, web, want)
			}
			spoil(from)
		}
		spoil(impl.SourceAt(l.given, count))
		spoil(impl.SourceAt(l.given, -1))
		mustHaveSources(t, w)
		if !l.isAs(before) {
			t.Errorf("an answer of %v shares memory with it", w)
		}
	}
}

// One list may be several clerks': each of them has reads and writes of its own.
func TestSourcesOfOneListForAllClerks(t *testing.T) {
	for _, list := range [][]impl.Deed{{}, clerkOf("read x"), clerkOf("write x 1", "read x"), clerkOf("write x 1", "wait", "read y"), clerkOf("swap x 1"), clerkOf("read x in 1")} {
		mustHaveSources(t, workOf(list, list))
		mustHaveSources(t, workOf(list, list, list))
		mustRefuseOneOff(t, workOf(list, list, list))
	}
}
