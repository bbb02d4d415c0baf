package tests

import (
	"testing"

	"loop.example/g00411/impl"
)

func readAt(clerk int64, deed int64, place int64, class int64) impl.Event {
	return impl.Event{Clerk: clerk, Deed: deed, Reads: true, Place: place, Class: class}
}

func wroteAt(clerk int64, deed int64, place int64, value int64, class int64) impl.Event {
	return impl.Event{Clerk: clerk, Deed: deed, Place: place, Value: value, Class: class}
}

func begun() []impl.Event {
	return []impl.Event{wroteAt(-1, -1, 0, 0, 0), wroteAt(-1, -1, 1, 0, 1), wroteAt(-1, -1, 2, 0, 2)}
}

// eventsTold tells first who does what, and finds the Classes when all are there.
func eventsTold(w [][]impl.Deed) []impl.Event {
	if !isWork(w) {
		return nil
	}
	reads, writes := map[int64]bool{1: true, 3: true}, map[int64]bool{2: true, 3: true}
	list := begun()
	for c, clerk := range w {
		for i, d := range clerk {
			if reads[d.Kind] {
				list = append(list, readAt(int64(c), int64(i), d.Place, 0))
			}
			if writes[d.Kind] {
				list = append(list, wroteAt(int64(c), int64(i), d.Place, d.Value, 0))
			}
		}
	}
	for n := range list {
		first := n
		for m := range n {
			if inOneGo(w, list[m], list[n]) {
				first = min(first, m)
			}
		}
		list[n].Class = int64(first)
	}
	return list
}

// inOneGo need not ask for the clerk of a Group, as no Group is two clerks'.
func inOneGo(w [][]impl.Deed, a impl.Event, b impl.Event) bool {
	if a.Clerk < 0 || b.Clerk < 0 {
		return false
	}
	group := w[a.Clerk][a.Deed].Group
	return a.Clerk == b.Clerk && a.Deed == b.Deed || group != 0 && group == w[b.Clerk][b.Deed].Group
}

func sameEvents(a []impl.Event, b []impl.Event) bool {
	if len(a) != len(b) {
		return false
	}
	for i := range a {
		if a[i] != b[i] {
			return false
		}
	}
	return true
}

func copiedEvents(list []impl.Event) []impl.Event {
	return append([]impl.Event{}, list...)
}

// readsTold, writesTold and classesTold go from the last Event to the first one, and put each number ahead of the others.
func readsTold(list []impl.Event) []int64 {
	numbers := []int64{}
	for i := len(list) - 1; i >= 0 && len(list) < 13; i-- {
		if list[i].Reads {
			numbers = append([]int64{int64(i)}, numbers...)
		}
	}
	return numbers
}

func writesTold(list []impl.Event, place int64) []int64 {
	numbers := []int64{}
	for i := len(list) - 1; i >= 0 && len(list) < 13; i-- {
		if !list[i].Reads && list[i].Place == place {
			numbers = append([]int64{int64(i)}, numbers...)
		}
	}
	return numbers
}

func classesTold(list []impl.Event) []int64 {
	classes := []int64{}
	for i := len(list) - 1; i >= 0 && len(list) < 13; i-- {
		classes = append([]int64{list[i].Class}, classes...)
	}
	return classes
}

var somePlaces = append([]int64{-3, -2, -1, 0, 1, 2, 3, 4, 5, 11, 12, 13, 100}, far...)

// mustNumber holds what is told of a list of Events, whether some work has it or not, against what the test tells.
func mustNumber(t *testing.T, list []impl.Event) {
	t.Helper()
	if got, want := impl.ReadsOf(list), readsTold(list); !sameList(got, want) {
		t.Fatalf("ReadsOf(%v) = %v, want %v", list, got, want)
	}
	for _, place := range somePlaces {
		if got, want := impl.WritesTo(list, place), writesTold(list, place); !sameList(got, want) {
			t.Fatalf("WritesTo(%v, %d) = %v, want %v", list, place, got, want)
		}
	}
	if got, want := impl.ClassesOf(list), classesTold(list); !sameList(got, want) {
		t.Fatalf("ClassesOf(%v) = %v, want %v", list, got, want)
	}
}

// mustHaveEvents holds all that chapter 6 tells of a work, or of what is none, against what the test tells; it answers how many Events there are.
func mustHaveEvents(t *testing.T, w [][]impl.Deed) int {
	t.Helper()
	got, want := impl.EventsOf(w), eventsTold(w)
	if !sameEvents(got, want) {
		t.Fatalf("EventsOf(%v) = %v, want %v", w, got, want)
	}
	mustNumber(t, got)
	return len(got)
}

// Promise 6: one clerk of each sort, and all mixes of two and three.
func TestEachDeedHasItsEvents(t *testing.T) {
	met := map[int]int{}
	some := clerkOf("read x", "write y 3", "swap z 9", "wait", "read x in 1", "write y 2 in 1", "read z in 2")
	for _, one := range clerksOf(some, 5) {
		met[mustHaveEvents(t, workOf(one))]++
	}
	for _, one := range mixedClerks() {
		for _, two := range mixedClerks() {
			met[mustHaveEvents(t, workOf(one, two))]++
			for _, three := range mixedClerks() {
				met[mustHaveEvents(t, workOf(one, two, three))]++
			}
		}
	}
	for n := range 10 {
		if is := n == 0 || n >= 3; is != (met[n] > 0) {
			t.Errorf("%d works of %d Events", met[n], n)
		}
	}
}

// Each right Deed ahead of, between and behind others, and each one that is one number off.
func TestEventsOfEveryDeed(t *testing.T) {
	for d := range shownDeeds {
		mustHaveEvents(t, workOf([]impl.Deed{d}))
		mustHaveEvents(t, workOf(nil, nil, []impl.Deed{d}))
		mustHaveEvents(t, workOf([]impl.Deed{d, d}, clerkOf("swap z 4"), nil))
		mustHaveEvents(t, workOf(clerkOf("wait", "read x"), append(append(clerkOf("wait"), d), clerkOf("wait", "write z 8")...)))
		kind, place, value, group := d, d, d, d
		for _, n := range append([]int64{-1, 1, 2, 4, 9}, far...) {
			kind.Kind, place.Place, value.Value, group.Group = d.Kind+n, d.Place+n, d.Value+n, d.Group+n
			for _, other := range []impl.Deed{kind, place, value, group} {
				mustHaveEvents(t, workOf([]impl.Deed{other}))
				mustHaveEvents(t, workOf(clerkOf("read x", "wait"), []impl.Deed{d, other}))
			}
		}
	}
}

func TestEventsAtEachLimit(t *testing.T) {
	most := 0
	for _, one := range evenClerks(6) {
		for _, two := range evenClerks(6) {
			most = max(most, mustHaveEvents(t, workOf(one, two)), mustHaveEvents(t, workOf(one, two, one)))
		}
	}
	if most != 9 {
		t.Errorf("at most %d Events", most)
	}
}

func TestEventsByHand(t *testing.T) {
	for _, c := range []struct {
		text string
		want []impl.Event
	}{
		{"-", nil}, {"- | - | -", nil}, {"wait", nil}, {"wait; wait | wait | -", nil},
		{"read x", []impl.Event{readAt(0, 0, 0, 3)}},
		{"write z 9", []impl.Event{wroteAt(0, 0, 2, 9, 3)}},
		{"swap y 5", []impl.Event{readAt(0, 0, 1, 3), wroteAt(0, 0, 1, 5, 3)}},
		// Waits and clerks without Deeds have a number, and no Event.
		{"wait; read y; wait; wait; write y 1", []impl.Event{readAt(0, 1, 1, 3), wroteAt(0, 4, 1, 1, 4)}},
		{"- | wait; write x 2; wait | -", []impl.Event{wroteAt(1, 1, 0, 2, 3)}},
		{"- | - | wait; swap z 7", []impl.Event{readAt(2, 1, 2, 3), wroteAt(2, 1, 2, 7, 3)}},
		{"read z | - | read z", []impl.Event{readAt(0, 0, 2, 3), readAt(2, 0, 2, 4)}},
		{"write x 1; read y | write y 1; read x", []impl.Event{wroteAt(0, 0, 0, 1, 3), readAt(0, 1, 1, 4), wroteAt(1, 0, 1, 1, 5), readAt(1, 1, 0, 6)}},
		// A swap's two have the number of its read, each swap for itself.
		{"swap x 1; swap x 1 | swap x 1", []impl.Event{readAt(0, 0, 0, 3), wroteAt(0, 0, 0, 1, 3), readAt(0, 1, 0, 5), wroteAt(0, 1, 0, 1, 5), readAt(1, 0, 0, 7), wroteAt(1, 0, 0, 1, 7)}},
		{"read x; swap y 2; write z 3", []impl.Event{readAt(0, 0, 0, 3), readAt(0, 1, 1, 4), wroteAt(0, 1, 1, 2, 4), wroteAt(0, 2, 2, 3, 6)}},
		// One Group: at the beginning, in the middle, at the end, all there is, of one alone.
		{"read x in 1; write y 1 in 1; read z", []impl.Event{readAt(0, 0, 0, 3), wroteAt(0, 1, 1, 1, 3), readAt(0, 2, 2, 5)}},
		{"write x 4; read x in 9; write y 1 in 9; read y in 9; read z", []impl.Event{wroteAt(0, 0, 0, 4, 3), readAt(0, 1, 0, 4), wroteAt(0, 2, 1, 1, 4), readAt(0, 3, 1, 4), readAt(0, 4, 2, 7)}},
		{"read z; wait; read x in 2; read x in 2", []impl.Event{readAt(0, 0, 2, 3), readAt(0, 2, 0, 4), readAt(0, 3, 0, 4)}},
		{"read x in 5; read x in 5; read x in 5; read x in 5; read x in 5", []impl.Event{readAt(0, 0, 0, 3), readAt(0, 1, 0, 3), readAt(0, 2, 0, 3), readAt(0, 3, 0, 3), readAt(0, 4, 0, 3)}},
		{"wait; write x 1 in 1; wait", []impl.Event{wroteAt(0, 1, 0, 1, 3)}},
		// Two Groups side by side, with a swap or a wait between, the greater one ahead.
		{"read x in 1; read y in 1; read x in 2; read y in 2", []impl.Event{readAt(0, 0, 0, 3), readAt(0, 1, 1, 3), readAt(0, 2, 0, 5), readAt(0, 3, 1, 5)}},
		{"write x 1 in 8; write y 1 in 3; read x in 1", []impl.Event{wroteAt(0, 0, 0, 1, 3), wroteAt(0, 1, 1, 1, 4), readAt(0, 2, 0, 5)}},
		{"read x in 2; swap y 1; read x in 1; read z in 1", []impl.Event{readAt(0, 0, 0, 3), readAt(0, 1, 1, 4), wroteAt(0, 1, 1, 1, 4), readAt(0, 2, 0, 6), readAt(0, 3, 2, 6)}},
		{"read x in 2; wait; read x in 1; write z 1 in 1", []impl.Event{readAt(0, 0, 0, 3), readAt(0, 2, 0, 4), wroteAt(0, 3, 2, 1, 4)}},
		// Groups of two and three clerks, and none beside none.
		{"read x in 1; read y in 1 | read x in 2; read y in 2", []impl.Event{readAt(0, 0, 0, 3), readAt(0, 1, 1, 3), readAt(1, 0, 0, 5), readAt(1, 1, 1, 5)}},
		{"write x 1; read x in 4 | - | read y in 6; write z 2 in 6; swap z 3", []impl.Event{wroteAt(0, 0, 0, 1, 3), readAt(0, 1, 0, 4), readAt(2, 0, 1, 5), wroteAt(2, 1, 2, 2, 5), readAt(2, 2, 2, 7), wroteAt(2, 2, 2, 3, 7)}},
		{"read x in 1 | read x in 2 | read x in 3; read y in 3", []impl.Event{readAt(0, 0, 0, 3), readAt(1, 0, 0, 4), readAt(2, 0, 0, 5), readAt(2, 1, 1, 5)}},
		{"read x; read x | read x; read x", []impl.Event{readAt(0, 0, 0, 3), readAt(0, 1, 0, 4), readAt(1, 0, 0, 5), readAt(1, 1, 0, 6)}},
	} {
		w := clerksNamed(c.text)
		if got, want := impl.EventsOf(w), append(begun(), c.want...); !sameEvents(got, want) {
			t.Errorf("EventsOf %q is %v, want %v", c.text, got, want)
		}
		mustHaveEvents(t, w)
	}
}

func TestEventsOfWhatIsNoWork(t *testing.T) {
	for _, w := range wrongWorks() {
		if got := impl.EventsOf(w); len(got) != 0 {
			t.Errorf("EventsOf(%v) = %v", w, got)
		}
		mustHaveEvents(t, w)
	}
	const long = 1 << 20
	clerks := make([][]impl.Deed, long)
	mustHaveEvents(t, clerks)
	mustHaveEvents(t, clerks[:4])
	mustHaveEvents(t, clerks[:3])
	for _, d := range []impl.Deed{{}, {Kind: 1}, {Kind: 4}, {Kind: 1, Group: 1}, {Kind: 3, Value: 1}} {
		list := make([]impl.Deed, long)
		for i := range list {
			list[i] = d
		}
		mustHaveEvents(t, workOf(list))
		mustHaveEvents(t, workOf(nil, list, nil))
		mustHaveEvents(t, workOf(list, list, list))
	}
}

func TestNumbersOfEventsByHand(t *testing.T) {
	list := impl.EventsOf(clerksNamed("write x 1 in 3; read y in 3; wait | swap y 2 | write x 3; read z"))
	for _, c := range []struct {
		what string
		got  []int64
		want []int64
	}{
		{"reads", impl.ReadsOf(list), []int64{4, 5, 8}},
		{"writes to x", impl.WritesTo(list, 0), []int64{0, 3, 7}},
		{"writes to y", impl.WritesTo(list, 1), []int64{1, 6}},
		{"writes to z", impl.WritesTo(list, 2), []int64{2}},
		{"writes to what is no place", impl.WritesTo(list, 3), nil},
		{"writes below all places", impl.WritesTo(list, -1), nil},
		{"classes", impl.ClassesOf(list), []int64{0, 1, 2, 3, 3, 5, 5, 7, 8}},
	} {
		if !sameList(c.got, c.want) {
			t.Errorf("%s: %v, want %v", c.what, c.got, c.want)
		}
	}
}

// oddEvents are some that no work has: numbers of no range, reads with a Value, clerks and Deeds that nobody has.
func oddEvents() []impl.Event {
	list := []impl.Event{
		{}, {Reads: true}, {Value: 5}, {Reads: true, Value: 5}, {Clerk: -1, Deed: -1, Reads: true}, {Clerk: 7, Deed: 99}, {Reads: true, Clerk: 7, Deed: -99},
		readAt(0, 0, 1, 1), wroteAt(0, 0, 1, 9, 0), wroteAt(-1, -1, 2, 0, 2),
	}
	for _, n := range append([]int64{-1, 3, 12, 13}, far...) {
		list = append(list, impl.Event{Place: n}, impl.Event{Place: n, Reads: true}, impl.Event{Class: n}, impl.Event{Class: n, Reads: true},
			impl.Event{Clerk: n, Deed: n, Value: n, Place: 1}, impl.Event{Clerk: n, Deed: n, Value: n, Place: 1, Reads: true}, impl.Event{Place: n, Class: n, Value: n})
	}
	return list
}

func TestListsThatNoWorkHas(t *testing.T) {
	mustNumber(t, nil)
	mustNumber(t, []impl.Event{})
	for _, one := range oddEvents() {
		mustNumber(t, []impl.Event{one})
		for _, other := range oddEvents() {
			// The same one twice is two of them.
			mustNumber(t, []impl.Event{one, other, one, one})
		}
	}
	e := wroteAt(0, 0, 1<<40, 1, -5)
	twice := []impl.Event{e, readAt(0, 0, 1<<40, 1<<50), e}
	if got := impl.WritesTo(twice, 1<<40); !sameList(got, []int64{0, 2}) {
		t.Errorf("WritesTo(%v) = %v", twice, got)
	}
	if got := impl.ClassesOf(twice); !sameList(got, []int64{-5, 1 << 50, -5}) {
		t.Errorf("ClassesOf(%v) = %v", twice, got)
	}
}

// Each way in which 4 Events may be reads, and writes to two places.
func TestAllShortLists(t *testing.T) {
	for a := range 81 {
		list := []impl.Event{}
		for rest := a; len(list) < 4; rest /= 3 {
			list = append(list, []impl.Event{readAt(1, 2, 1, 4), wroteAt(1, 2, 1, 6, 4), wroteAt(1, 2, 0, 6, 9)}[rest%3])
			mustNumber(t, list)
		}
	}
}

func manyEvents(n int, one impl.Event) []impl.Event {
	list := make([]impl.Event, n)
	for i := range list {
		list[i] = one
	}
	return list
}

func TestListsAroundMaxSize(t *testing.T) {
	for _, one := range oddEvents() {
		for n := range 15 {
			list := manyEvents(n, one)
			mustNumber(t, list)
			if n > 0 {
				list[n-1].Reads = !list[n-1].Reads
				mustNumber(t, list)
				list[0], list[n-1] = list[n-1], list[0]
				mustNumber(t, list)
			}
		}
	}
	for _, n := range []int{12, 13} {
		reads, writes := impl.ReadsOf(manyEvents(n, readAt(0, 0, 0, 7))), impl.WritesTo(manyEvents(n, wroteAt(0, 0, 2, 1, 7)), 2)
		classes := impl.ClassesOf(manyEvents(n, readAt(0, 0, 0, 7)))
		if want := 12 * (13 - n); len(reads) != want || len(writes) != want || len(classes) != want {
			t.Errorf("of %d Events: %v, %v, %v", n, reads, writes, classes)
		}
	}
}

func TestVeryLongLists(t *testing.T) {
	for _, one := range []impl.Event{{}, readAt(0, 0, 0, 3), wroteAt(0, 0, 1, 1, 3)} {
		for _, n := range []int{14, 24, 255, 256, 257, 268, 1 << 20} {
			mustNumber(t, manyEvents(n, one))
		}
	}
}

// laidEvents is a list with marks ahead of it and in the room behind it.
func laidEvents(list []impl.Event) ([]impl.Event, []impl.Event) {
	mark := impl.Event{Clerk: 77, Deed: -77, Reads: true, Place: 1, Value: 777, Class: 7777}
	floor := append(manyEvents(3, mark), list...)
	floor = append(floor, manyEvents(20, mark)...)
	return floor, floor[3 : 3+len(list)]
}

// memoryLists are of works and of none, at most 12 long and longer.
func memoryLists() [][]impl.Event {
	lists := [][]impl.Event{nil, {{}}, oddEvents()[:11], oddEvents()[:12], oddEvents()[:13], oddEvents()}
	for _, text := range rightWorks() {
		lists = append(lists, impl.EventsOf(clerksNamed(text)))
	}
	return lists
}

func TestEventsLeaveTheirArgumentsAlone(t *testing.T) {
	for _, w := range append(memoryWorks(), wrongWorks()...) {
		l := laid(w)
		before := l.copied()
		mustHaveEvents(t, l.given)
		if !l.isAs(before) {
			t.Errorf("of %v is left %v on %v", w, l.clerks, l.floor)
		}
	}
	for _, list := range memoryLists() {
		floor, given := laidEvents(list)
		before := copiedEvents(floor)
		mustNumber(t, given)
		if !sameEvents(floor, before) {
			t.Errorf("of %v is left %v", before, floor)
		}
	}
}

func TestEventsAreNewMemory(t *testing.T) {
	for _, w := range append(memoryWorks(), wrongWorks()...) {
		l := laid(w)
		before := l.copied()
		one, other := impl.EventsOf(l.given), impl.EventsOf(l.given)
		room := one[:cap(one)]
		for i := range room {
			room[i] = impl.Event{Clerk: 77, Deed: 77, Reads: true, Place: 77, Value: 77, Class: 77}
		}
		if want := eventsTold(w); !sameEvents(other, want) || !sameEvents(impl.EventsOf(l.given), want) {
			t.Errorf("two answers of EventsOf(%v) share memory", w)
		}
		if !l.isAs(before) {
			t.Errorf("EventsOf(%v) shares memory with its argument", w)
		}
	}
}

func TestNumbersOfEventsAreNewMemory(t *testing.T) {
	for _, list := range memoryLists() {
		floor, given := laidEvents(list)
		before := copiedEvents(floor)
		all := func() [][]int64 {
			return [][]int64{impl.ReadsOf(given), impl.WritesTo(given, 0), impl.WritesTo(given, 1), impl.WritesTo(given, 2), impl.ClassesOf(given)}
		}
		ones, others := all(), all()
		want := [][]int64{}
		for _, other := range others {
			want = append(want, copied(other))
		}
		for _, one := range ones {
			room := one[:cap(one)]
			for i := range room {
				room[i] = 77
			}
		}
		for i, again := range all() {
			if !sameList(others[i], want[i]) || !sameList(again, want[i]) {
				t.Errorf("two answers of %v share memory: %v, %v", list, others[i], again)
			}
		}
		if !sameEvents(floor, before) {
			t.Errorf("an answer of %v shares memory with it", list)
		}
	}
}

// One list may be several clerks': each has Events of its own.
func TestEventsOfOneListForAllClerks(t *testing.T) {
	for _, list := range [][]impl.Deed{{}, clerkOf("read x"), clerkOf("read x", "write y 1"), clerkOf("wait", "swap x 1"), clerkOf("read x in 1")} {
		mustHaveEvents(t, workOf(list, list))
		mustHaveEvents(t, workOf(list, list, list))
	}
}
