package tests

import (
	"slices"
	"strings"
	"testing"

	"loop.example/g00411/impl"
)

func isTale(list []impl.Event, tale impl.Tale) bool {
	return isSource(list, tale.From) && isRows(list, tale.Rows)
}

// againstTold asks of each two events whether one is a read, and where the other one stands.
func againstTold(list []impl.Event, tale impl.Tale) []int64 {
	if !isTale(list, tale) {
		return nil
	}
	reads := readsTold(list)
	return drawn(len(list), func(i, j int) bool {
		at := slices.Index(reads, int64(i))
		if at < 0 || list[j].Reads || list[i].Place != list[j].Place {
			return false
		}
		return slices.Index(tale.Rows, int64(j)) > slices.Index(tale.Rows, tale.From[at])
	})
}

// outcomeTold looks for the last write of a place from the end of the rows.
func outcomeTold(list []impl.Event, tale impl.Tale) []int64 {
	if !isTale(list, tale) {
		return nil
	}
	values := []int64{}
	for at := range readsTold(list) {
		values = append(values, list[tale.From[at]].Value)
	}
	for place := range int64(3) {
		at := len(tale.Rows) - 1
		for list[tale.Rows[at]].Place != place {
			at--
		}
		values = append(values, list[tale.Rows[at]].Value)
	}
	return values
}

func talesCounted(list []impl.Event) int64 {
	if len(list) == 0 {
		return -1
	}
	return sourcesCounted(list) * rowsCounted(list)
}

// taleTold goes from rows to rows, and to the next source when all of them were met.
func taleTold(list []impl.Event, n int64) impl.Tale {
	source := int64(0)
	for n >= rowsCounted(list) {
		source, n = source+1, n-rowsCounted(list)
	}
	return impl.Tale{From: sourceTold(list, source), Rows: rowsTold(list, n)}
}

func sameTale(a impl.Tale, b impl.Tale) bool {
	return sameList(a.From, b.From) && sameList(a.Rows, b.Rows)
}

// taleNamed has a source and a rows, by their digits, with / between.
func taleNamed(word string) impl.Tale {
	from, rows, _ := strings.Cut(word, "/")
	return impl.Tale{From: numbersNamed(from), Rows: numbersNamed(rows)}
}

// taleKey tells two tales apart, so that it can be asked whether one came before.
type taleKey struct{ from, rows listKey }

func keyOfTale(tale impl.Tale) taleKey { return taleKey{keyOf(tale.From), keyOf(tale.Rows)} }

// revalued gives each write a Value of its own, so that an outcome tells which write it is from.
func revalued(w [][]impl.Deed) [][]impl.Deed {
	made, value := [][]impl.Deed{}, int64(0)
	for _, clerk := range w {
		list := append([]impl.Deed{}, clerk...)
		for i := range list {
			if list[i].Value != 0 {
				value++
				list[i].Value = value
			}
		}
		made = append(made, list)
	}
	return made
}

// mustJudgeTale answers whether it is a tale.
func mustJudgeTale(t *testing.T, w [][]impl.Deed, list []impl.Event, tale impl.Tale) bool {
	t.Helper()
	is := isTale(list, tale)
	if got := impl.TaleOk(w, tale); got != is {
		t.Fatalf("TaleOk(%v, %v) = %v", w, tale, got)
	}
	if got, want := impl.AgainstWeb(w, tale), againstTold(list, tale); !sameList(got, want) {
		t.Fatalf("AgainstWeb(%v, %v) = %v, want %v", w, tale, got, want)
	}
	if got, want := impl.OutcomeOf(w, tale), outcomeTold(list, tale); !sameList(got, want) {
		t.Fatalf("OutcomeOf(%v, %v) = %v, want %v", w, tale, got, want)
	}
	return is
}

func mustHaveNoTaleAt(t *testing.T, w [][]impl.Deed, n int64) {
	t.Helper()
	if tale, told := impl.TaleAt(w, n); told || len(tale.From) != 0 || len(tale.Rows) != 0 {
		t.Fatalf("TaleAt(%v, %d) = %v, %v", w, n, tale, told)
	}
}

// mustHaveTales holds all that chapter 10 tells of a work, or of what is none, against what the test tells; it answers all tales, by how they are found.
func mustHaveTales(t *testing.T, w [][]impl.Deed) map[taleKey]int64 {
	t.Helper()
	list, met := eventsTold(w), map[taleKey]int64{}
	count := talesCounted(list)
	if got := impl.TalesCount(w); got != count {
		t.Fatalf("TalesCount(%v) = %d, want %d", w, got, count)
	}
	for n := range max(count, 0) {
		tale, told := impl.TaleAt(w, n)
		if want := taleTold(list, n); !told || !sameTale(tale, want) {
			t.Fatalf("TaleAt(%v, %d) = %v, %v; want %v", w, n, tale, told, want)
		}
		if before, is := met[keyOfTale(tale)]; is {
			t.Fatalf("TaleAt(%v, %d) = %v, as at %d", w, n, tale, before)
		}
		met[keyOfTale(tale)] = n
		if !mustJudgeTale(t, w, list, tale) {
			t.Fatalf("TaleAt(%v, %d) = %v, which is none", w, n, tale)
		}
	}
	for _, n := range append([]int64{-2, -1, -count, count, count + 1, 2*count + 7, 1 << 32, 1<<32 + count - 1, -1 << 32}, far...) {
		if n < 0 || n >= count {
			mustHaveNoTaleAt(t, w, n)
		}
	}
	for _, tale := range []impl.Tale{{}, {From: []int64{0}}, {Rows: []int64{0, 1, 2}}, {From: []int64{0}, Rows: []int64{0, 1, 2}}, {From: []int64{0, 1, 2}}} {
		mustJudgeTale(t, w, list, tale)
	}
	return met
}

// sourcesFound are all that are SourceOk of the lists of numbers from one below the first event to one past the last.
func sourcesFound(w [][]impl.Deed, list []impl.Event) [][]int64 {
	found := [][]int64{}
	for _, from := range listsOf(len(readsTold(list)), -1, int64(len(list))+1) {
		if impl.SourceOk(w, from) {
			found = append(found, from)
		}
	}
	return found
}

// rowsFound are all that are RowsOk of the orders of all writes.
func rowsFound(w [][]impl.Deed, list []impl.Event) [][]int64 {
	writes, found := []int64{}, [][]int64{}
	for n, e := range list {
		if !e.Reads {
			writes = append(writes, int64(n))
		}
	}
	for n := range waysToOrder(len(writes)) {
		if rows := orderTold(writes, n); impl.RowsOk(w, rows) {
			found = append(found, rows)
		}
	}
	return found
}

// mustPairAll wants each pair of a right source and a right rows told just once, and nothing else.
func mustPairAll(t *testing.T, w [][]impl.Deed) {
	t.Helper()
	met, list, pairs := mustHaveTales(t, w), eventsTold(w), 0
	rows := rowsFound(w, list)
	for _, from := range sourcesFound(w, list) {
		for _, one := range rows {
			tale := impl.Tale{From: from, Rows: one}
			if _, told := met[keyOfTale(tale)]; !told || !impl.TaleOk(w, tale) {
				t.Fatalf("of %v: %v is told: %v", w, tale, told)
			}
			pairs++
		}
	}
	if pairs != len(met) {
		t.Fatalf("%v has %d tales, of %d pairs", w, len(met), pairs)
	}
}

// mustTellAllTales asks every list of as many numbers as there are reads beside every list of as many as there are writes.
func mustTellAllTales(t *testing.T, w [][]impl.Deed) {
	t.Helper()
	met, list, found := mustHaveTales(t, w), eventsTold(w), 0
	reads, past := len(readsTold(list)), int64(len(list))+1
	rows := listsOf(len(list)-reads, -1, past)
	for _, from := range listsOf(reads, -1, past) {
		for _, one := range rows {
			tale := impl.Tale{From: from, Rows: one}
			_, told := met[keyOfTale(tale)]
			if is := impl.TaleOk(w, tale); is != told {
				t.Fatalf("of %v: %v is a tale: %v, and told: %v", w, tale, is, told)
			}
			if told {
				found++
			}
		}
	}
	if found != len(met) {
		t.Fatalf("of %v: %d of %d tales found", w, found, len(met))
	}
}

// oneOff are lists that came of this one: another number somewhere, two changed for each other, one taken away, one more.
func oneOff(list []int64, others []int64) [][]int64 {
	lists := [][]int64{}
	for i := range len(list) + 1 {
		for _, other := range others {
			lists = append(lists, append(append(copied(list[:i]), other), list[i:]...))
		}
		if i == len(list) {
			break
		}
		lists = append(lists, append(copied(list[:i]), list[i+1:]...))
		for _, other := range others {
			changed := copied(list)
			changed[i] = other
			lists = append(lists, changed)
		}
		for j := range i {
			changed := copied(list)
			changed[i], changed[j] = list[j], list[i]
			lists = append(lists, changed)
		}
	}
	return lists
}

// someTales are all, or where there are many the first, the last and some between.
func someTales(w [][]impl.Deed) []impl.Tale {
	list := eventsTold(w)
	count := talesCounted(list)
	step := max(1, count/6)
	some := []impl.Tale{}
	for n := int64(0); n < count; n += step {
		some = append(some, taleTold(list, n))
	}
	return append(some, taleTold(list, count-1))
}

// mustRefuseTalesOff takes tales whose source, whose rows, and both of which are one off.
func mustRefuseTalesOff(t *testing.T, w [][]impl.Deed) {
	t.Helper()
	list := eventsTold(w)
	others := append([]int64{12, 1<<32 + 3}, far...)
	for n := int64(-1); n <= int64(len(list)); n++ {
		others = append(others, n)
	}
	for _, tale := range someTales(w) {
		sources, rows := oneOff(tale.From, others), oneOff(tale.Rows, others)
		for _, from := range sources {
			mustJudgeTale(t, w, list, impl.Tale{From: from, Rows: tale.Rows})
		}
		for i, one := range rows {
			mustJudgeTale(t, w, list, impl.Tale{From: tale.From, Rows: one})
			mustJudgeTale(t, w, list, impl.Tale{From: sources[i%len(sources)], Rows: one})
		}
		// The two lists changed for each other; each without the other; each twice.
		for _, wrong := range []impl.Tale{{From: tale.Rows, Rows: tale.From}, {From: tale.From}, {From: tale.Rows}, {From: tale.Rows, Rows: tale.Rows}, {From: tale.From, Rows: tale.From}, {Rows: append(copied(tale.From), tale.Rows...)}} {
			if mustJudgeTale(t, w, list, wrong) && len(tale.From) > 0 {
				t.Fatalf("of %v: %v is a tale", w, wrong)
			}
		}
	}
}

// Promise 10: one clerk.
func TestEachTaleOfOneClerkIsOne(t *testing.T) {
	for _, one := range clerksOf(clerkOf("read x", "write x 1", "read y", "swap y 2", "wait"), 3) {
		mustPairAll(t, revalued(workOf(one)))
	}
	for _, one := range clerksOf(clerkOf("read x in 1", "write x 1 in 1", "swap x 3"), 3) {
		mustPairAll(t, revalued(workOf(nil, one)))
	}
}

// Promise 10: two and three clerks.
func TestEachTaleOfSeveralClerksIsOne(t *testing.T) {
	some := append(clerksOf(clerkOf("read x", "write x 1", "swap x 2"), 1), clerkOf("write y 1", "read x"), clerkOf("read y", "wait", "write x 3"))
	for _, one := range some {
		for _, two := range some {
			mustPairAll(t, revalued(workOf(one, two)))
			for _, three := range some {
				mustPairAll(t, revalued(workOf(one, two, three)))
			}
		}
	}
}

// Promise 10: each two lists that could be a tale of works of one, two and three clerks.
func TestNoOtherListsAreTales(t *testing.T) {
	for _, text := range []string{"-", "- | - | -", "read x", "read y; read y", "write x 1", "write y 1", "swap x 1", "write z 1; read z", "write z 1; write z 2", "read x | write x 1", "- | write y 1 | read y", "read x | - | read z", "read x | read y | read z", "write x 1 | write x 2"} {
		mustTellAllTales(t, clerksNamed(text))
	}
}

// Promise 10: more of one clerk, and mixes with clerks that are not right.
func TestTalesOfManyWorks(t *testing.T) {
	met := map[int]int{}
	for _, one := range clerksOf(clerkOf("write x 1", "read x", "read y", "swap y 2"), 5) {
		met[len(mustHaveTales(t, revalued(workOf(one))))]++
	}
	for _, one := range mixedClerks() {
		for _, two := range mixedClerks() {
			met[len(mustHaveTales(t, workOf(one, two)))]++
			met[len(mustHaveTales(t, workOf(two, nil, one)))]++
		}
	}
	// So many of one clerk's five Deeds, and none of what is no work.
	for _, n := range []int{0, 1, 2, 4, 6, 8, 12, 18, 24, 54, 96, 120, 384} {
		if met[n] == 0 {
			t.Errorf("no work with %d tales", n)
		}
	}
}

// Each right Deed beside others, and each one that is one number off.
func TestTalesOfEveryDeed(t *testing.T) {
	for d := range shownDeeds {
		mustPairAll(t, workOf([]impl.Deed{d}))
		mustHaveTales(t, workOf([]impl.Deed{d, d}, nil, []impl.Deed{d}))
		mustHaveTales(t, workOf(clerkOf("write x 1", "read y"), append(clerkOf("swap z 1"), d)))
		kind, place, value, group := d, d, d, d
		for _, n := range append([]int64{-1, 1, 2, 4, 9}, far...) {
			kind.Kind, place.Place, value.Value, group.Group = d.Kind+n, d.Place+n, d.Value+n, d.Group+n
			for _, other := range []impl.Deed{kind, place, value, group} {
				mustHaveTales(t, workOf([]impl.Deed{other}))
				mustHaveTales(t, workOf(clerkOf("write x 1", "read y"), []impl.Deed{d, other}))
			}
		}
	}
}

func TestTalesAtEachLimit(t *testing.T) {
	// One of the clerks may pass what a clerk may have; both of them pass what a work may have.
	for _, one := range evenClerks(6) {
		for _, two := range evenClerks(3) {
			mustHaveTales(t, workOf(one, two))
			mustHaveTales(t, workOf(two, one, two))
		}
	}
}

// Six events: reads and writes of each number, all at one place; no work has more tales than 720.
func TestTalesOfSixEvents(t *testing.T) {
	for reads, want := range []int64{720, 720, 600, 384, 162, 32, 1} {
		all := append(times(6-reads, "write y 7"), times(reads, "read y")...)
		for parted := 1; parted <= 5; parted += 2 {
			w := revalued(workOf(clerkOf(all[:parted]...), clerkOf(all[parted:]...)))
			if got := impl.TalesCount(w); got != want {
				t.Errorf("TalesCount(%v) = %d, want %d", w, got, want)
			}
			mustHaveTales(t, w)
			mustRefuseTalesOff(t, w)
		}
	}
	for text, want := range map[string]int64{
		"swap x 1; swap x 2; swap x 3":                                                               384,
		"swap x 1 | swap x 2 | swap x 3":                                                             384,
		"swap x 1; swap y 2 | swap z 3":                                                              8,
		"swap z 1; write z 2 | read z; swap y 3":                                                     36,
		"read x; read y; read z | write x 1; write y 2; write z 3":                                   8,
		"write z 1; read z; write z 2; read z; write x 3 | read z":                                   54,
		"write x 1; write x 2; write x 3; write x 4; read x | write x 5":                             720,
		"write x 1; write y 2; write x 3; write y 4; read x | read y":                                36,
		"read x in 1; write x 2 in 1; read x in 1 | read x in 2; write x 3 in 2; read x in 2":        162,
		"write x 1; write y 2 | write y 3; write z 4 | write z 5; write x 6":                         8,
		"write z 1; write z 2; write z 3 | write z 4; write z 5 | write z 6":                         720,
		"wait; read x; wait; read y; wait | wait; read z; wait; read x; wait | read y; read z":       1,
		"wait; write x 1; wait; write y 2; wait | wait; read x; wait; read y; wait | read y; read x": 16,
	} {
		w := clerksNamed(text)
		if got := impl.TalesCount(w); got != want {
			t.Errorf("TalesCount(%q) = %d, want %d", text, got, want)
		}
		mustHaveTales(t, w)
	}
}

// No work has more: each number of reads and of writes at each place, six in all.
func TestTheGreatestCountOfTales(t *testing.T) {
	greatest := int64(0)
	kinds := []string{"read x", "write x 1", "read y", "write y 2", "read z", "write z 3"}
	for _, list := range clerksOf(clerkOf(kinds...), 5) {
		if len(list) < 5 || !slices.IsSortedFunc(list, func(a, b impl.Deed) int { return int(a.Place*4 + a.Kind - b.Place*4 - b.Kind) }) {
			continue
		}
		for _, last := range clerkOf(kinds...) {
			greatest = max(greatest, impl.TalesCount(workOf(list, []impl.Deed{last})))
		}
	}
	if greatest != 720 {
		t.Errorf("a work has %d tales", greatest)
	}
}

func TestTalesByHand(t *testing.T) {
	for _, c := range []struct {
		text string
		want []string
	}{
		// No reads, no writes, no Deeds.
		{"-", []string{"/012"}}, {"- | - | -", []string{"/012"}}, {"wait | wait; wait", []string{"/012"}},
		{"write x 1", []string{"/0312"}}, {"write z 1 | write x 2", []string{"/04123"}}, {"write x 1; write x 2", []string{"/03412", "/04312"}}, {"write x 1; write y 2 | write x 3; write y 4", []string{"/0351462", "/0351642", "/0531462", "/0531642"}},
		{"read x", []string{"0/012"}}, {"read z; read y | read x", []string{"210/012"}},
		// One rows, several sources.
		{"write x 1; read x", []string{"0/0312", "3/0312"}}, {"swap y 1", []string{"1/0142", "4/0142"}}, {"write x 1; read y | write y 1; read x", []string{"10/03152", "13/03152", "50/03152", "53/03152"}},
		// Several of both: the rows change first.
		{"write x 1; write x 2; read x", []string{"0/03412", "0/04312", "3/03412", "3/04312", "4/03412", "4/04312"}},
		{"read z | write z 1 | write z 2", []string{"2/01245", "2/01254", "4/01245", "4/01254", "5/01245", "5/01254"}},
		{"swap x 1 | swap x 2", []string{"00/04612", "00/06412", "04/04612", "04/06412", "06/04612", "06/06412", "40/04612", "40/06412", "44/04612", "44/06412", "46/04612", "46/06412", "60/04612", "60/06412", "64/04612", "64/06412", "66/04612", "66/06412"}},
		{"write y 1; read y | write x 2; write y 3; read x", []string{"10/051362", "10/051632", "15/051362", "15/051632", "30/051362", "30/051632", "35/051362", "35/051632", "60/051362", "60/051632", "65/051362", "65/051632"}},
		{"read y | write x 1; write x 2 | write x 3", []string{"1/045612", "1/046512", "1/054612", "1/056412", "1/064512", "1/065412"}},
	} {
		w := clerksNamed(c.text)
		if got := impl.TalesCount(w); got != int64(len(c.want)) {
			t.Errorf("%q has %d tales, want %d", c.text, got, len(c.want))
		}
		for n, want := range c.want {
			if got, told := impl.TaleAt(w, int64(n)); !told || !sameTale(got, taleNamed(want)) {
				t.Errorf("TaleAt(%q, %d) = %v, %v; want %s", c.text, n, got, told, want)
			}
			if !impl.TaleOk(w, taleNamed(want)) {
				t.Errorf("%s is no tale of %q", want, c.text)
			}
		}
		mustPairAll(t, w)
		mustRefuseTalesOff(t, w)
	}
}

func TestTaleAtItsEnds(t *testing.T) {
	for text, ends := range map[string][2]string{
		"-":                                     {"/012", "/012"},
		"read y":                                {"1/012", "1/012"},
		"write y 1":                             {"/0132", "/0132"},
		"write x 1; write x 2 | write x 3":      {"/034512", "/054312"},
		"write x 1; read y | write y 1; read x": {"10/03152", "53/03152"},
		"swap x 1 | swap x 2; write z 3":        {"00/046127", "66/064127"},
		"swap z 1 | swap z 2 | swap z 3":        {"222/012468", "888/012864"},
		"write x 1; write x 2; write x 3; write x 4; write x 5 | read x":    {"0/03456712", "7/07654312"},
		"write z 1; write z 2; write z 3 | write z 4; write z 5; write z 6": {"/012345678", "/012876543"},
		"read x; read x; read x; read x; write x 1":                         {"0000/0712", "7777/0712"},
	} {
		w := clerksNamed(text)
		last := impl.TalesCount(w) - 1
		first, is := impl.TaleAt(w, 0)
		got, told := impl.TaleAt(w, last)
		if !is || !told || !sameTale(first, taleNamed(ends[0])) || !sameTale(got, taleNamed(ends[1])) {
			t.Errorf("of %q the first is %v, the last %v", text, first, got)
		}
		for _, n := range append([]int64{-1, -2, -last - 1, last + 1, last + 2, 1 << 31, 1 << 32, 1 << 33, 1 << 62}, far...) {
			mustHaveNoTaleAt(t, w, n)
		}
	}
}

func TestTalesBetweenTheEnds(t *testing.T) {
	w := clerksNamed("write y 1; write y 2; write y 3; write y 4 | read y; write y 5")
	for n, want := range map[int64]string{0: "1/01345682", 1: "1/01345862", 119: "1/01865432", 120: "3/01345682", 240: "4/01345682", 359: "4/01865432", 361: "5/01345862", 600: "8/01345682", 719: "8/01865432"} {
		if got, told := impl.TaleAt(w, n); !told || !sameTale(got, taleNamed(want)) {
			t.Errorf("the tale at %d is %v, want %s", n, got, want)
		}
	}
}

func TestTaleOkByHand(t *testing.T) {
	// Reads are 4 (y), 5 (x, of the swap) and 8 (z); writes to x are 0, 3 and 6, to y 1 and 7, to z 2.
	w := clerksNamed("write x 1; read y; swap x 2 | write y 3; read z")
	sources, rows := []string{"102", "132", "162", "702", "732", "762"}, []string{"036172", "063172"}
	// Too short, too long, a read, another place's, past the last event.
	wrongSources := []string{"", "1", "10", "02", "1022", "0102", "402", "152", "108", "302", "172", "012", "902", "109"}
	// Too short, too long, one not foremost, one twice, a read, parts in another order, past the last event.
	wrongRows := []string{"", "012", "03617", "36172", "0361722", "0036172", "306172", "036712", "033172", "036112", "056172", "036178", "172036", "103672", "036192", "012345678"}
	judge := func(from string, one string, want bool) {
		tale := taleNamed(from + "/" + one)
		if got := impl.TaleOk(w, tale); got != want {
			t.Errorf("TaleOk(%s, %s) = %v", from, one, got)
		}
		against, outcome := impl.AgainstWeb(w, tale), impl.OutcomeOf(w, tale)
		if want && (len(against) != 9 || len(outcome) != 6) || !want && len(against)+len(outcome) != 0 {
			t.Errorf("of %s and %s come %v and %v", from, one, against, outcome)
		}
	}
	for _, from := range sources {
		for _, one := range rows {
			judge(from, one, true)
		}
		for _, one := range wrongRows {
			judge(from, one, false)
		}
	}
	for _, from := range wrongSources {
		for _, one := range append(wrongRows, rows...) {
			judge(from, one, false)
		}
	}
	for _, n := range append([]int64{-1, -2, -9, 9, 10, 11, 12, 13, 64, 1 << 32, 1<<32 + 1, 1 << 62}, far...) {
		for i := range 9 {
			tale := taleNamed("102/036172")
			if i < 3 {
				tale.From[i] = n
			} else {
				tale.Rows[i-3] = n
			}
			if impl.TaleOk(w, tale) || len(impl.AgainstWeb(w, tale)) != 0 || len(impl.OutcomeOf(w, tale)) != 0 {
				t.Errorf("%v should be no tale", tale)
			}
		}
	}
}

// Tales of one work are handed beside another one; and the source of one with the rows of the other.
func TestTalesOfAnotherWork(t *testing.T) {
	texts := []string{"-", "read x", "read y", "write x 1", "write y 1", "swap x 1", "write x 1; read x", "read x; write x 1", "write x 1; read y | write y 1; read x", "write y 1; read x | write x 1; read y", "swap x 1 | swap x 2", "write x 1; write x 2; read x | read x"}
	met := map[bool]int{}
	for _, own := range texts {
		for _, other := range texts {
			w, list := clerksNamed(own), eventsTold(clerksNamed(own))
			for n := range impl.TalesCount(clerksNamed(other)) {
				tale, _ := impl.TaleAt(clerksNamed(other), n)
				first, _ := impl.TaleAt(w, 0)
				is := mustJudgeTale(t, w, list, tale)
				mustJudgeTale(t, w, list, impl.Tale{From: first.From, Rows: tale.Rows})
				mustJudgeTale(t, w, list, impl.Tale{From: tale.From, Rows: first.Rows})
				if own != other {
					met[is]++
				}
			}
		}
	}
	if met[true] == 0 || met[false] == 0 {
		t.Errorf("tales of another work: %v", met)
	}
	// By hand: the place is another one, the number is, and there are as many of both.
	for _, c := range []struct{ text, tale string }{
		{"read y", "0/012"}, {"read x", "1/012"}, {"write y 1", "/0312"}, {"write x 1", "/0132"}, {"write x 1; read x", "4/0412"}, {"read x; write x 1", "3/0312"}, {"swap x 1", "3/0312"},
		{"write y 1; read x | write x 1; read y", "13/03152"}, {"write x 1; write x 2", "0/0312"}, {"-", "0/012"}, {"read x", "/012"}, {"write x 1 | read x", "4/0412"},
	} {
		if impl.TaleOk(clerksNamed(c.text), taleNamed(c.tale)) {
			t.Errorf("%s should be no tale of %q", c.tale, c.text)
		}
	}
}

func TestAgainstWebByHand(t *testing.T) {
	for _, c := range []struct {
		text, tale string
		events     int
		want       string
	}{
		// No reads.
		{"-", "/012", 3, ""}, {"write x 1; write x 2 | write y 3", "/034152", 6, ""},
		// Places with one write alone.
		{"read x", "0/012", 4, ""}, {"read x; read y | read z", "012/012", 6, ""}, {"read x; write y 1 | write z 1", "0/01425", 6, ""},
		// From the last write of its place.
		{"write x 1; read x", "3/0312", 5, ""}, {"read y; write y 1", "4/0142", 5, ""}, {"write z 1 | write z 2 | read z", "3/01243", 6, ""}, {"write z 1 | write z 2 | read z", "4/01234", 6, ""},
		// From one of the first three.
		{"write x 1; read x", "0/0312", 5, "43"}, {"read y; write y 1", "1/0142", 5, "34"}, {"read z | write z 1", "2/0124", 5, "34"}, {"write z 1 | write z 2 | read z", "2/01243", 6, "53 54"},
		{"write x 1; write x 2; write x 3; read x", "0/034512", 7, "63 64 65"}, {"write x 1; write x 2; write x 3; read x", "0/054312", 7, "63 64 65"},
		// From a write in the middle, in each order.
		{"write x 1; write x 2; write x 3; read x", "4/034512", 7, "65"}, {"write x 1; write x 2; write x 3; read x", "4/045312", 7, "65 63"}, {"write x 1; write x 2; write x 3; read x", "4/053412", 7, ""}, {"write x 1; write x 2; write x 3; read x", "3/034512", 7, "64 65"}, {"write x 1; write x 2; write x 3; read x", "5/054312", 7, "64 63"},
		{"write y 1; write y 2; write y 3; write y 4; write y 5 | read y", "4/01543762", 9, "83 87 86"}, {"write y 1; write y 2; write y 3; write y 4; write y 5 | read y", "5/01543762", 9, "84 83 87 86"}, {"write y 1; write y 2; write y 3; write y 4; write y 5 | read y", "6/01543762", 9, ""}, {"write y 1; write y 2; write y 3; write y 4; write y 5 | read y", "1/01543762", 9, "83 84 85 86 87"},
		// Two reads from the same write, and from two.
		{"write x 1; read x; read x | write x 2", "33/03612", 7, "46 56"}, {"write x 1; read x; read x | write x 2", "33/06312", 7, ""}, {"write x 1; read x; read x | write x 2", "00/03612", 7, "43 46 53 56"}, {"write x 1; read x; read x | write x 2", "03/03612", 7, "43 46 56"}, {"write x 1; read x; read x | write x 2", "60/06312", 7, "43 53 56"},
		{"read z | read z | write z 1", "22/0125", 6, "35 45"}, {"read z | read z | write z 1", "55/0125", 6, ""},
		// Writes at another place have no line, wherever they stand.
		{"write x 1; read y | write y 1; read x", "10/03152", 7, "45 63"}, {"write x 1; read y | write y 1; read x", "13/03152", 7, "45"}, {"write x 1; read y | write y 1; read x", "50/03152", 7, "63"}, {"write x 1; read y | write y 1; read x", "53/03152", 7, ""},
		{"read x | write y 1; write z 2; write x 3", "0/061425", 7, "36"}, {"read x | write y 1; write z 2; write x 3", "6/061425", 7, ""}, {"read y | write x 1; write z 2; write y 3", "1/041625", 7, "36"}, {"read z | write x 1; write y 2; write z 3", "2/041526", 7, "36"},
		{"read x; read y; read z | write z 1; write y 2; write x 3", "012/081726", 9, "38 47 56"}, {"read x; read y; read z | write z 1; write y 2; write x 3", "872/081726", 9, "56"}, {"read x; read y; read z | write z 1; write y 2; write x 3", "816/081726", 9, "47"},
		// Reads of swaps: their own write is one of them.
		{"swap x 1", "0/0412", 5, "34"}, {"swap x 1", "4/0412", 5, ""}, {"swap z 1 | write z 2", "2/01245", 6, "34 35"}, {"swap z 1 | write z 2", "5/01254", 6, "34"}, {"swap z 1 | write z 2", "5/01245", 6, ""}, {"swap z 1 | write z 2", "4/01245", 6, "35"},
		{"swap y 1 | swap y 2", "14/01462", 7, "34 36 56"}, {"swap y 1 | swap y 2", "14/01642", 7, "34 36"}, {"swap y 1 | swap y 2", "64/01462", 7, "56"}, {"swap y 1 | swap y 2", "61/01642", 7, "34 54 56"}, {"swap y 1 | swap y 2", "46/01642", 7, "54"},
		{"swap x 1; swap x 2; swap x 3", "046/046812", 9, "34 36 38 56 58 78"}, {"swap x 1; swap x 2; swap x 3", "864/086412", 9, "36 34 54"},
		// Groups.
		{"read x in 1; write x 2 in 1 | write x 3", "0/04512", 6, "34 35"}, {"read x in 1; write x 2 in 1 | write x 3", "4/04512", 6, "35"}, {"read x in 1; write x 2 in 1 | write x 3", "4/05412", 6, ""}, {"read x in 1; write x 2 in 1 | write x 3", "5/05412", 6, "34"},
	} {
		w := clerksNamed(c.text)
		if got, want := impl.AgainstWeb(w, taleNamed(c.tale)), linesNamed(c.events, c.want); !sameList(got, want) {
			t.Errorf("AgainstWeb(%q, %s) = %v, want %v", c.text, c.tale, got, want)
		}
		mustJudgeTale(t, w, eventsTold(w), taleNamed(c.tale))
	}
}

// Lines go from reads alone, to writes at their place alone, and not to the one it is from; one comes to the same by a line back to that one, and a line of the rows onward.
func TestAgainstIsBackAndOnward(t *testing.T) {
	met := 0
	for _, text := range []string{"swap x 1 | swap x 2 | swap x 3", "write x 1; read y; write x 2 | write y 3; read x; write y 4", "read x; read x; write x 1; write x 2 | write x 3; read z", "write z 1; read z in 1; write z 2 in 1 | wait; read z; swap z 3"} {
		w := clerksNamed(text)
		list := eventsTold(w)
		for n := range impl.TalesCount(w) {
			tale, _ := impl.TaleAt(w, n)
			r := impl.AgainstWeb(w, tale)
			met += countLines(r)
			if want := impl.Then(impl.Back(impl.FromWeb(w, tale.From)), impl.RowWeb(w, tale.Rows)); !sameList(r, want) {
				t.Fatalf("AgainstWeb(%q, %v) = %v, want %v", text, tale, r, want)
			}
			if !within(r, drawn(len(list), func(i, j int) bool { return list[i].Reads && !list[j].Reads && list[i].Place == list[j].Place })) {
				t.Fatalf("AgainstWeb(%q, %v) = %v", text, tale, r)
			}
			if countLines(impl.Common(impl.Back(r), impl.FromWeb(w, tale.From))) != 0 {
				t.Fatalf("AgainstWeb(%q, %v) = %v goes to what a read is from", text, tale, r)
			}
		}
	}
	if met == 0 {
		t.Error("no line was met")
	}
}

func TestOutcomeOfByHand(t *testing.T) {
	for _, c := range []struct{ text, tale, want string }{
		// No reads; places that nobody writes to.
		{"-", "/012", "000"}, {"wait | - | wait", "/012", "000"}, {"write x 7", "/0312", "700"}, {"write y 7", "/0132", "070"}, {"write z 7", "/0123", "007"}, {"write z 1 | write x 9", "/04123", "901"}, {"write y 3; write z 4 | write x 5", "/051324", "534"},
		// Reads of what nobody wrote.
		{"read x", "0/012", "0000"}, {"read x; read y; read z", "012/012", "000000"}, {"read z; write x 4", "2/0412", "0400"},
		{"write x 1; read x", "0/0312", "0100"}, {"write x 1; read x", "3/0312", "1100"}, {"read y; write y 9", "4/0142", "9090"}, {"read y; write y 9", "1/0142", "0090"},
		// The last write, not the greatest number or Value.
		{"write x 1; write x 2", "/03412", "200"}, {"write x 1; write x 2", "/04312", "100"}, {"write y 9; write y 2", "/01342", "020"}, {"write z 9 | write z 2", "/01243", "009"}, {"write x 5; write x 3; write x 4", "/045312", "500"}, {"write x 5; write x 3; write x 4", "/035412", "300"},
		{"write x 1 | write x 2 | read x", "0/03412", "0200"}, {"write x 1 | write x 2 | read x", "3/03412", "1200"}, {"write x 1 | write x 2 | read x", "4/04312", "2100"}, {"write x 1 | write x 2 | read x", "3/04312", "1100"},
		{"write x 3; write x 3; read x", "3/03412", "3300"}, {"write x 3; write x 3; read x", "0/04312", "0300"},
		// In the order of the reads, then of the places.
		{"write x 1; read y | write y 2; read x", "10/03152", "00120"}, {"write x 1; read y | write y 2; read x", "13/03152", "01120"}, {"write x 1; read y | write y 2; read x", "50/03152", "20120"}, {"write x 1; read y | write y 2; read x", "53/03152", "21120"},
		{"read z; read x | write z 4; write x 5", "56/06125", "45504"}, {"read z; read x | write z 4; write x 5", "50/06125", "40504"}, {"read z; read x | write z 4; write x 5", "26/06125", "05504"}, {"read z; read x | write z 4; write x 5", "20/06125", "00504"},
		{"read x; read x; read x | write x 8", "606/0612", "808800"}, {"read x; read x; read x | write x 8", "066/0612", "088800"},
		{"read x; read y; read z | write z 7; write y 8; write x 9", "876/081726", "987987"}, {"read x; read y; read z | write z 7; write y 8; write x 9", "072/081726", "080987"},
		// Swaps.
		{"swap x 1", "0/0412", "0100"}, {"swap x 1", "4/0412", "1100"}, {"swap x 1 | swap x 2", "04/04612", "01200"}, {"swap x 1 | swap x 2", "60/06412", "20100"}, {"swap x 1 | swap x 2", "46/06412", "12100"},
		{"swap y 3; write y 4 | swap y 5", "17/015742", "05030"}, {"swap x 6; swap y 7; swap z 8", "012/041628", "000678"}, {"swap x 6; swap y 7; swap z 8", "468/041628", "678678"},
		// Groups, and six writes.
		{"read x in 1; write x 2 in 1 | write x 3", "5/05412", "3200"}, {"write x 1 in 1; write x 2 in 1; read x in 1", "3/03412", "1200"},
		{"write x 4; write y 5; write z 6 | write x 1; write y 2; write z 3", "/036147258", "123"}, {"write x 4; write y 5; write z 6 | write x 1; write y 2; write z 3", "/063174285", "456"}, {"write x 4; write y 5; write z 6 | write x 1; write y 2; write z 3", "/063147285", "426"},
	} {
		w := clerksNamed(c.text)
		if got := impl.OutcomeOf(w, taleNamed(c.tale)); !sameList(got, numbersNamed(c.want)) {
			t.Errorf("OutcomeOf(%q, %s) = %v, want %s", c.text, c.tale, got, c.want)
		}
		mustJudgeTale(t, w, eventsTold(w), taleNamed(c.tale))
	}
}

// What is no tale has neither lines nor an outcome: the source is wrong, the rows are, both are.
func TestNothingOfNoTale(t *testing.T) {
	for _, c := range []struct{ text, tales string }{
		{"-", "/ 0/012 /01 /0123 /021 0/0"}, {"read x", "/012 1/012 3/012 00/012 0/ 0/021 0/0123 3/0312"},
		{"write x 1; read x", "/0312 4/0312 1/0312 33/0312 3/012 3/0321 3/3012 3/0412 3/03122 4/0412"},
		{"swap x 1 | swap x 2", "0/04612 444/04612 43/04612 64/0462 64/046612 64/03512 64/46012 64/04621 53/03512"},
	} {
		w := clerksNamed(c.text)
		for word := range strings.FieldsSeq(c.tales) {
			tale := taleNamed(word)
			if impl.TaleOk(w, tale) || len(impl.AgainstWeb(w, tale)) != 0 || len(impl.OutcomeOf(w, tale)) != 0 {
				t.Errorf("of %q: %s is a tale, with %v and %v", c.text, word, impl.AgainstWeb(w, tale), impl.OutcomeOf(w, tale))
			}
		}
	}
}

func TestTalesOfWhatIsNoWork(t *testing.T) {
	for _, w := range wrongWorks() {
		if n := impl.TalesCount(w); n != -1 {
			t.Errorf("TalesCount(%v) = %d", w, n)
		}
		for _, word := range []string{"/", "/012", "0/012", "/0312", "0/0312", "00/012", "000/012", "00000/012", "0000000/012", "00000/0812", "0/04612", "111/0132", "0000/0468912", "/012345678", "012/"} {
			tale := taleNamed(word)
			if impl.TaleOk(w, tale) || len(impl.AgainstWeb(w, tale)) != 0 || len(impl.OutcomeOf(w, tale)) != 0 {
				t.Errorf("of %v: %v is a tale, with %v and %v", w, tale, impl.AgainstWeb(w, tale), impl.OutcomeOf(w, tale))
			}
		}
		for _, n := range append([]int64{-2, -1, 0, 1, 2}, far...) {
			mustHaveNoTaleAt(t, w, n)
		}
		mustHaveTales(t, w)
	}
}

// The zero Tale is none, not even of a work without Deeds: each rows has the first three.
func TestTheZeroTaleIsNone(t *testing.T) {
	for _, text := range append(rightWorks(), "write x 1", "write y 1 | write z 2", "read y") {
		w := clerksNamed(text)
		for _, tale := range []impl.Tale{{}, {From: []int64{}, Rows: []int64{}}} {
			if impl.TaleOk(w, tale) || len(impl.AgainstWeb(w, tale)) != 0 || len(impl.OutcomeOf(w, tale)) != 0 {
				t.Errorf("the zero Tale is one of %q", text)
			}
		}
	}
}

func TestTalesOfVeryLongLists(t *testing.T) {
	const long = 1 << 20
	clerks, zeros := make([][]impl.Deed, long), make([]int64, long)
	mustHaveTales(t, clerks)
	mustHaveTales(t, clerks[:4])
	mustHaveTales(t, clerks[:3])
	for _, d := range []impl.Deed{{}, {Kind: 1}, {Kind: 2, Value: 1}, {Kind: 4}, {Kind: 3, Value: 1}} {
		list := make([]impl.Deed, long)
		for i := range list {
			list[i] = d
		}
		for _, w := range [][][]impl.Deed{workOf(list), workOf(nil, list, nil), workOf(list, list, list)} {
			mustHaveTales(t, w)
			mustJudgeTale(t, w, nil, impl.Tale{From: zeros, Rows: zeros})
		}
	}
	for _, text := range []string{"-", "read x", "write x 1; read x | swap x 2", "read x; read x; read x; read x; read x | read x", "write y 1; write y 2; write y 3; write y 4; write y 5 | write y 6"} {
		w := clerksNamed(text)
		first, _ := impl.TaleAt(w, 0)
		for _, n := range []int{7, 9, 12, 13, 24, 25, 64, 256, 257, long} {
			more := impl.Tale{From: append(copied(first.From), zeros[:n]...), Rows: append(copied(first.Rows), zeros[:n]...)}
			for _, tale := range []impl.Tale{more, {From: first.From, Rows: more.Rows}, {From: more.From, Rows: first.Rows}, {From: zeros[:n], Rows: zeros[:n]}} {
				if mustJudgeTale(t, w, eventsTold(w), tale) {
					t.Errorf("%q has a tale of %d more", text, n)
				}
			}
		}
	}
}

// taleWorks are those of rowWorks, and some with reads and writes at one place.
func taleWorks() [][][]impl.Deed {
	works := rowWorks()
	for _, text := range []string{"write x 1; write x 2; read x", "swap y 1 | swap y 2", "read z; write z 1 | write z 2; read z | read x"} {
		works = append(works, clerksNamed(text))
	}
	return works
}

// handedTales are of every kind: right for some work, wrong for each, empty and long.
func handedTales() []impl.Tale {
	sources := handedSources()
	tales := []impl.Tale{}
	for i, rows := range handedRows() {
		tales = append(tales, impl.Tale{From: sources[0], Rows: rows}, impl.Tale{From: sources[i%len(sources)], Rows: rows})
	}
	return tales
}

// asking is of a work, of its events as the test tells them, and of a tale; it spoils what it is answered.
type asking func(w [][]impl.Deed, list []impl.Event, tale impl.Tale)

// mustLeaveTalesAlone hands works and tales with room behind them, and wants all of it as it was.
func mustLeaveTalesAlone(t *testing.T, ask asking) {
	t.Helper()
	for _, w := range taleWorks() {
		l, list := laid(w), eventsTold(w)
		before := l.copied()
		first, _ := impl.TaleAt(w, 0)
		last, _ := impl.TaleAt(w, impl.TalesCount(w)-1)
		for _, tale := range append(handedTales(), first, last) {
			from, roomFrom := roomy(tale.From)
			rows, roomRows := roomy(tale.Rows)
			beforeFrom, beforeRows := copied(roomFrom), copied(roomRows)
			ask(l.given, list, impl.Tale{From: from, Rows: rows})
			if !sameList(roomFrom, beforeFrom) || !sameList(roomRows, beforeRows) {
				t.Errorf("of %v and %v are left %v and %v", beforeFrom, beforeRows, roomFrom, roomRows)
			}
		}
		if !l.isAs(before) {
			t.Errorf("of %v is left %v on %v", w, l.clerks, l.floor)
		}
	}
}

// mustTakeOneMemory hands tales whose two lists lie in one memory, one behind the other, or are one.
func mustTakeOneMemory(t *testing.T, ask asking) {
	t.Helper()
	for _, w := range taleWorks() {
		list := eventsTold(w)
		for n := range min(8, talesCounted(list)) {
			told := taleTold(list, n)
			room := append(append(copied(told.From), told.Rows...), 77, -77)
			before, parted := copied(room), len(told.From)
			for _, tale := range []impl.Tale{{From: room[:parted], Rows: room[parted : len(room)-2]}, {From: room[:parted], Rows: room[:parted]}, {From: room[parted:], Rows: room[parted:]}, {From: room, Rows: room}} {
				ask(w, list, tale)
			}
			if !sameList(room, before) {
				t.Errorf("of %v is left %v", before, room)
			}
		}
	}
}

func askedForTales(t *testing.T) asking {
	return func(w [][]impl.Deed, list []impl.Event, tale impl.Tale) {
		mustJudgeTale(t, w, list, tale)
		spoil(impl.AgainstWeb(w, tale))
		spoil(impl.OutcomeOf(w, tale))
	}
}

func TestTalesLeaveTheirArgumentsAlone(t *testing.T) {
	mustLeaveTalesAlone(t, askedForTales(t))
	for _, w := range taleWorks() {
		l := laid(w)
		before := l.copied()
		mustHaveTales(t, l.given)
		if !l.isAs(before) {
			t.Errorf("of %v is left %v on %v", w, l.clerks, l.floor)
		}
	}
}

func TestTaleOfListsInOneMemory(t *testing.T) { mustTakeOneMemory(t, askedForTales(t)) }

func copiedTale(tale impl.Tale) impl.Tale {
	return impl.Tale{From: copied(tale.From), Rows: copied(tale.Rows)}
}

func TestTalesAreNewMemory(t *testing.T) {
	for _, w := range taleWorks() {
		l, list := laid(w), eventsTold(w)
		before := l.copied()
		count := max(talesCounted(list), 0)
		// All are asked for ahead of the first one that is spoilt, so that two that lie in one memory are found.
		all, again, webs, outcomes := []impl.Tale{}, []impl.Tale{}, [][]int64{}, [][]int64{}
		for n := range count {
			one, _ := impl.TaleAt(l.given, n)
			other, _ := impl.TaleAt(l.given, n)
			all, again = append(all, one), append(again, other)
			webs, outcomes = append(webs, impl.AgainstWeb(l.given, other)), append(outcomes, impl.OutcomeOf(l.given, other))
		}
		for n := range count {
			want := taleTold(list, n)
			against, outcome := againstTold(list, want), outcomeTold(list, want)
			if !sameTale(all[n], want) || !sameTale(again[n], want) || !sameList(webs[n], against) || !sameList(outcomes[n], outcome) {
				t.Fatalf("of %v two answers share memory: %v, %v, %v, %v", w, all[n], again[n], webs[n], outcomes[n])
			}
			spoil(webs[n])
			if !sameList(outcomes[n], outcome) || !sameTale(again[n], want) {
				t.Fatalf("AgainstWeb(%v, %v) shares memory", w, want)
			}
			spoil(outcomes[n])
			if !sameTale(again[n], want) {
				t.Fatalf("OutcomeOf(%v, %v) shares memory", w, want)
			}
			// Each of the two lists is spoilt, with the room behind it, beside the other one.
			spoil(again[n].From)
			if !sameList(again[n].Rows, want.Rows) {
				t.Fatalf("TaleAt(%v, %d): the rows share memory with the source", w, n)
			}
			spoil(again[n].Rows)
			spoil(all[n].Rows)
			if !sameList(all[n].From, want.From) {
				t.Fatalf("TaleAt(%v, %d): the source shares memory with the rows", w, n)
			}
			spoil(all[n].From)
		}
		for _, n := range []int64{-1, count} {
			none, _ := impl.TaleAt(l.given, n)
			spoil(none.From)
			spoil(none.Rows)
		}
		spoil(impl.AgainstWeb(l.given, impl.Tale{}))
		spoil(impl.OutcomeOf(l.given, impl.Tale{}))
		mustHaveTales(t, w)
		if !l.isAs(before) {
			t.Errorf("an answer of %v shares memory with it", w)
		}
	}
}

// What is answered may be changed, and handed in again: it is asked by what it is now.
func TestATaleThatIsChanged(t *testing.T) {
	w := clerksNamed("write x 1; write x 2; read x")
	tale, _ := impl.TaleAt(w, 0)
	before := copiedTale(tale)
	for _, c := range []struct{ tale, against, outcome string }{
		{"0/03412", "53 54", "0200"}, {"3/03412", "54", "1200"}, {"3/04312", "", "1100"}, {"4/04312", "53", "2100"},
	} {
		now := taleNamed(c.tale)
		copy(tale.From, now.From)
		copy(tale.Rows, now.Rows)
		if !impl.TaleOk(w, tale) || !sameList(impl.AgainstWeb(w, tale), linesNamed(6, c.against)) || !sameList(impl.OutcomeOf(w, tale), numbersNamed(c.outcome)) {
			t.Errorf("of %s come %v and %v", c.tale, impl.AgainstWeb(w, tale), impl.OutcomeOf(w, tale))
		}
	}
	if again, _ := impl.TaleAt(w, 0); !sameTale(again, before) {
		t.Errorf("the first tale is now %v", again)
	}
}

// One list may be several clerks': each of them has reads and writes of its own.
func TestTalesOfOneListForAllClerks(t *testing.T) {
	for _, list := range [][]impl.Deed{{}, clerkOf("read x"), clerkOf("write x 1"), clerkOf("write x 1", "read x"), clerkOf("write x 1", "wait", "read y"), clerkOf("swap x 1"), clerkOf("read x in 1")} {
		mustHaveTales(t, workOf(list, list))
		mustHaveTales(t, workOf(list, list, list))
		if isWork(workOf(list, list, list)) {
			mustRefuseTalesOff(t, workOf(list, list, list))
		}
	}
}
