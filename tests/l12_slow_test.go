package tests

import (
	"slices"
	"strings"
	"testing"

	"loop.example/g00411/impl"
)

// slowly is a work as the test reads it: what hangs on the work alone is told once for all its tales.
type slowly struct {
	w       [][]impl.Deed
	list    []impl.Event
	kept    []int64
	classes []int64
}

func slowlyOf(w [][]impl.Deed) slowly {
	list := eventsTold(w)
	return slowly{w: w, list: list, kept: linesTold(w).kept, classes: classesTold(list)}
}

// fromOthersTold asks each two events by whose they are, and by what the read is from.
func (s slowly) fromOthersTold(from []int64) []int64 {
	if !isSource(s.list, from) {
		return nil
	}
	reads := readsTold(s.list)
	return drawn(len(s.list), func(i, j int) bool {
		at := slices.Index(reads, int64(j))
		return at >= 0 && from[at] == int64(i) && (i < 3 || s.list[i].Clerk != s.list[j].Clerk)
	})
}

// slowWebTold has a line where one of the four kinds has it.
func (s slowly) slowWebTold(tale impl.Tale) []int64 {
	if !isTale(s.list, tale) {
		return nil
	}
	kinds := []grid{gridOf(s.kept), gridOf(s.fromOthersTold(tale.From)), gridOf(rowWebTold(s.list, tale.Rows)), gridOf(againstTold(s.list, tale))}
	return drawn(len(s.list), func(i, j int) bool {
		return slices.ContainsFunc(kinds, func(kind grid) bool { return kind[i][j] })
	})
}

// office is where a tale is done without a line: the clerks do their Deeds and bring their notes to the board, and all must come as it is told.
type office struct {
	w    [][]impl.Deed
	list []impl.Event
	from map[int64]int64
	// rows has of each place the writes in the order in which they must come to the board.
	rows [3][]int64
	met  map[hour]bool
}

// hour is how many Deeds of each clerk are done, and how many of its writes are on the board: notes and board come of this alone, as the rows are told.
type hour struct{ next, brought [3]int }

// desk has beside the hour what comes of it: of each clerk its notes, the oldest first, and of each place how many writes are on the board.
type desk struct {
	hour
	notes [3][]int64
	seats [3]int
}

func officeOf(s slowly, tale impl.Tale) office {
	o := office{w: s.w, list: s.list, from: map[int64]int64{}, met: map[hour]bool{}}
	for at, read := range readsTold(s.list) {
		o.from[read] = tale.From[at]
	}
	for _, write := range tale.Rows {
		place := s.list[write].Place
		o.rows[place] = append(o.rows[place], write)
	}
	return o
}

// eventsOfDeed are their numbers: none of a wait, two of a swap.
func (o office) eventsOfDeed(clerk int, deed int) []int64 {
	numbers := []int64{}
	for n, e := range o.list {
		if e.Clerk == int64(clerk) && e.Deed == int64(deed) {
			numbers = append(numbers, int64(n))
		}
	}
	return numbers
}

// onBoard is the write that stands there now.
func (o office) onBoard(d desk, place int64) int64 { return o.rows[place][d.seats[place]-1] }

// sees is the newest of the clerk's own notes on that place, or what stands on the board.
func (o office) sees(d desk, clerk int, place int64) int64 {
	seen := o.onBoard(d, place)
	for _, note := range d.notes[clerk] {
		if o.list[note].Place == place {
			seen = note
		}
	}
	return seen
}

// brings puts a write on the board, where it is the next one that is told there.
func (o office) brings(d desk, clerk int, write int64) (desk, bool) {
	place := o.list[write].Place
	if o.rows[place][d.seats[place]] != write {
		return d, false
	}
	d.seats[place]++
	d.brought[clerk]++
	return d, true
}

// doesAtOnce reads from the board and writes to it, through one swap or all that is left of one Group.
func (o office) doesAtOnce(d desk, clerk int) (desk, bool) {
	deeds, first, is := o.w[clerk], d.next[clerk], true
	for at := first; at == first || at < len(deeds) && deeds[at].Group != 0 && deeds[at].Group == deeds[first].Group; at++ {
		for _, n := range o.eventsOfDeed(clerk, at) {
			if o.list[n].Reads {
				is = o.from[n] == o.onBoard(d, o.list[n].Place)
			} else {
				d, is = o.brings(d, clerk, n)
			}
			if !is {
				return d, false
			}
		}
		d.next[clerk]++
	}
	return d, true
}

// does lets the clerk do its next Deed, where it may, and where all comes as it is told.
func (o office) does(d desk, clerk int) (desk, bool) {
	deed := o.w[clerk][d.next[clerk]]
	plain := deed.Group == 0 && (deed.Kind == 1 || deed.Kind == 2)
	if !plain && len(d.notes[clerk]) > 0 {
		return d, false
	}
	if !plain {
		return o.doesAtOnce(d, clerk)
	}
	for _, n := range o.eventsOfDeed(clerk, d.next[clerk]) {
		if !o.list[n].Reads {
			d.notes[clerk] = append(slices.Clone(d.notes[clerk]), n)
		} else if o.from[n] != o.sees(d, clerk, o.list[n].Place) {
			return d, false
		}
	}
	d.next[clerk]++
	return d, true
}

// canGoOn goes all ways there are, and asks whether one of them comes to the end of all work.
func (o office) canGoOn(d desk) bool {
	if o.met[d.hour] {
		return false
	}
	o.met[d.hour] = true
	done := true
	for c, deeds := range o.w {
		if d.next[c] < len(deeds) {
			done = false
			if then, is := o.does(d, c); is && o.canGoOn(then) {
				return true
			}
		}
		if len(d.notes[c]) > 0 {
			done = false
			then, is := o.brings(d, c, d.notes[c][0])
			then.notes[c] = d.notes[c][1:]
			if is && o.canGoOn(then) {
				return true
			}
		}
	}
	return done
}

// canBeDone asks whether the clerks, with their notes, can do just what is told.
func (s slowly) canBeDone(tale impl.Tale) bool {
	return isTale(s.list, tale) && officeOf(s, tale).canGoOn(desk{seats: [3]int{1, 1, 1}})
}

// slow counts the tales of works: how many there were, how many are EachOk and SlowOk; of the latter how many have a read of its clerk's own write, of those that are EachOk alone how many go round by Classes alone.
type slow struct{ tales, each, ok, own, atOnce int }

func (s *slow) add(more slow) {
	s.tales, s.each, s.ok, s.own, s.atOnce = s.tales+more.tales, s.each+more.each, s.ok+more.ok, s.own+more.own, s.atOnce+more.atOnce
}

// mustHaveOthers holds FromOthers of a source, or of what is none, against what the test tells; and against the second half of promise 12, by the program's own Events.
func mustHaveOthers(t *testing.T, s slowly, from []int64) []int64 {
	t.Helper()
	got, want := impl.FromOthers(s.w, from), s.fromOthersTold(from)
	if !sameList(got, want) {
		t.Fatalf("FromOthers(%v, %v) = %v, want %v", s.w, from, got, want)
	}
	events := impl.EventsOf(s.w)
	for i := range got {
		for _, j := range bitsOf(got[i]) {
			if begins := i < 3; !begins && events[i].Clerk == events[j].Clerk {
				t.Fatalf("FromOthers(%v, %v) = %v: %d and %d are one clerk's", s.w, from, got, i, j)
			}
		}
	}
	return got
}

// mustJudgeSlow holds what chapter 12 tells of a tale, or of what is none, against what the test tells by lines and without; it answers whether it is SlowOk.
func mustJudgeSlow(t *testing.T, s slowly, tale impl.Tale) bool {
	t.Helper()
	mustHaveOthers(t, s, tale.From)
	want := s.slowWebTold(tale)
	if got := impl.SlowWeb(s.w, tale); !sameList(got, want) {
		t.Fatalf("SlowWeb(%v, %v) = %v, want %v", s.w, tale, got, want)
	}
	is := isEach(s.list, tale) && !runsBack(liftedBySearch(want, s.classes))
	if got := impl.SlowOk(s.w, tale); got != is || got != s.canBeDone(tale) {
		t.Fatalf("SlowOk(%v, %v) = %v; by lines %v, without %v", s.w, tale, got, is, s.canBeDone(tale))
	}
	return is
}

// mustKeepPromise is the first half of promise 12, by the program's own answers; it answers what is to be counted.
func mustKeepPromise(t *testing.T, w [][]impl.Deed, tale impl.Tale) slow {
	t.Helper()
	met, web := slow{tales: 1}, impl.SlowWeb(w, tale)
	round := impl.Round(impl.Lifted(web, impl.ClassesOf(impl.EventsOf(w))))
	if impl.EachOk(w, tale) {
		met.each = 1
		if round && !impl.Round(web) {
			met.atOnce = 1
		}
	}
	if !impl.SlowOk(w, tale) {
		return met
	}
	met.ok = 1
	if met.each == 0 || round {
		t.Fatalf("SlowOk(%v, %v), EachOk: %v, round: %v", w, tale, met.each == 1, round)
	}
	if countLines(impl.FromOthers(w, tale.From)) < countLines(impl.FromWeb(w, tale.From)) {
		met.own = 1
	}
	return met
}

// mustHaveSlow goes through all tales that TaleAt answers, and some that are none.
func mustHaveSlow(t *testing.T, w [][]impl.Deed) slow {
	t.Helper()
	s, met := slowlyOf(w), slow{}
	for n := range max(impl.TalesCount(w), 0) {
		tale, _ := impl.TaleAt(w, n)
		mustJudgeSlow(t, s, tale)
		met.add(mustKeepPromise(t, w, tale))
	}
	for _, tale := range []impl.Tale{{}, {From: []int64{0}}, {Rows: []int64{0, 1, 2}}, {From: []int64{0}, Rows: []int64{0, 1, 2}}, {From: []int64{0, 1, 2}}} {
		mustJudgeSlow(t, s, tale)
	}
	if isWork(w) && met.ok == 0 {
		t.Fatalf("%v has no tale that is SlowOk", w)
	}
	return met
}

// mustHaveMetSlow wants tales of each sort: the promise would say nothing of works that have none.
func mustHaveMetSlow(t *testing.T, met slow) {
	t.Helper()
	if met.ok == 0 || met.ok == met.each || met.each == met.tales || met.own == 0 || met.atOnce == 0 {
		t.Errorf("met: %v", met)
	}
}

// Promise 12: one clerk. Whatever it has in its notes, it sees what it would see without.
func TestSlowOfOneClerk(t *testing.T) {
	met := slow{}
	for _, one := range clerksOf(clerkOf("read x", "write x 1", "read y", "swap y 2", "wait"), 3) {
		met.add(mustHaveSlow(t, workOf(one)))
	}
	for _, one := range clerksOf(clerkOf("read x in 1", "write x 1 in 1", "swap x 3", "read x"), 3) {
		met.add(mustHaveSlow(t, workOf(nil, one)))
	}
	if met.ok == 0 || met.ok != met.each || met.each == met.tales || met.own == 0 {
		t.Errorf("met: %v", met)
	}
}

// Promise 12: two clerks.
func TestSlowOfTwoClerks(t *testing.T) {
	met := slow{}
	some := append(clerksOf(clerkOf("read x", "write x 1", "swap x 2"), 1), clerkOf("write x 1", "read y"), clerkOf("write y 2", "read x"), clerkOf("write x 1", "wait", "read y"), clerkOf("write y 2", "wait", "read x"), clerkOf("write x 1", "write y 2"), clerkOf("read y", "read x"), clerkOf("read x", "write y 2"), clerkOf("write x 1", "read x", "read y"), clerkOf("write y 2", "read y", "read x"), clerkOf("swap x 1", "read y"), clerkOf("write y 2", "read x in 2"), clerkOf("write y 3", "write x 4"))
	for _, one := range append(some, clerkOf("write x 1 in 1", "read y in 1"), clerkOf("write x 1 in 1", "write y 2 in 1"), clerkOf("read x in 1", "write y 2 in 1"), clerkOf("read x in 1", "read y in 1")) {
		for _, two := range some {
			met.add(mustHaveSlow(t, workOf(one, two)))
		}
	}
	mustHaveMetSlow(t, met)
}

// Promise 12: three clerks.
func TestSlowOfThreeClerks(t *testing.T) {
	met := slow{}
	some := append(clerksOf(clerkOf("read x", "write x 1"), 1), clerkOf("swap x 2"), clerkOf("write x 1", "read y"), clerkOf("write y 2", "wait", "read x"), clerkOf("write y 1", "write x 2"), clerkOf("read y", "read x"))
	for _, one := range append(some, clerkOf("write x 1 in 1", "read y in 1"), clerkOf("write x 5 in 1", "write y 6 in 1")) {
		for _, two := range append(some, clerkOf("write y 1", "read y")) {
			for _, three := range some {
				met.add(mustHaveSlow(t, workOf(one, two, three)))
			}
		}
	}
	mustHaveMetSlow(t, met)
}

// Promise 12: more Deeds of each kind, and mixes with clerks that are not right.
func TestSlowOfManyWorks(t *testing.T) {
	met := slow{}
	for _, one := range mixedClerks() {
		for i, two := range mixedClerks() {
			met.add(mustHaveSlow(t, workOf(one, two)))
			if i%3 == 0 {
				mustHaveSlow(t, workOf(two, nil, one))
			}
		}
	}
	for d := range shownDeeds {
		met.add(mustHaveSlow(t, workOf([]impl.Deed{d})))
		met.add(mustHaveSlow(t, workOf(clerkOf("write x 1", "read y"), append(clerkOf("swap y 1"), d))))
	}
	for _, text := range rightWorks() {
		met.add(mustHaveSlow(t, clerksNamed(text)))
	}
	mustHaveMetSlow(t, met)
}

func TestSlowAtEachLimit(t *testing.T) {
	for _, one := range evenClerks(6) {
		for _, two := range evenClerks(1) {
			mustHaveSlow(t, workOf(one, two))
		}
	}
	for reads := range 7 {
		all := append(times(6-reads, "write y 7"), times(reads, "read y")...)
		mustHaveSlow(t, workOf(clerkOf(all[:3]...), clerkOf(all[3:]...)))
		slices.Reverse(all)
		mustHaveSlow(t, workOf(clerkOf(all[:1]...), clerkOf(all[1:]...)))
	}
}

// Six events in which each kind of line counts, of two and of three clerks.
func TestSlowOfSixEvents(t *testing.T) {
	for _, text := range []string{
		"write x 1; read x; read y | write y 1; read y; read x", "write x 1; read z; read y | write y 1; read z; read x", "write x 1; read z in 1; read y | write y 1; read z in 2; read x", "write x 1; wait; read y; read x | write y 1; wait; read x",
		"write x 1; swap z 1; read y | write y 1; read x", "swap x 1; read y | swap y 1; read x", "write x 1; read y | write y 1; read z | write z 1; read x", "write x 1; wait; read y | write y 1; wait; read z | write z 1; wait; read x",
		"write x 1; write y 1 | read y; write z 1 | read z; read x", "write x 1; write y 2 | write y 3; write z 4 | write z 5; write x 6", "read x; write y 1 | read y; write z 1 | read z; write x 1", "write x 1 | read x; read y | write y 1; wait; read x",
		"write x 1 in 1; write y 1 in 1; read x | write x 2 in 2; write y 2 in 2; read y", "read x in 1; read y in 1; write x 1 in 1 | write y 2; swap x 3", "write x 1; read x in 1; write y 2 in 1; read y | swap y 3", "read x in 1; write x 2 in 1; read x in 1 | read x in 2; write x 3 in 2; read x in 2",
	} {
		mustHaveSlow(t, clerksNamed(text))
	}
}

// How many tales are SlowOk can be told by counting the ways to do it.
func TestHowManyAreSlowOk(t *testing.T) {
	for _, c := range []struct {
		text      string
		ok, tales int
	}{
		{"-", 1, 1}, {"wait; wait | - | wait", 1, 1}, {"read x; read x; read x; read x; read x | read x", 1, 1},
		// Writes at one place: the ways to mix the clerks; of Groups the ways to order them.
		{"write x 1; write x 2; write x 3; write x 4; write x 5", 1, 120}, {"write z 1; write z 2 | write z 3; write z 4", 6, 24}, {"write z 1 | write z 2; write z 3 | write z 4", 12, 24}, {"write x 1 in 1; write x 2 in 1 | write x 3 in 2; write x 4 in 2", 2, 24}, {"write x 1 in 1; write x 2 in 1 | write x 3; write x 4", 3, 24}, {"write y 1 in 1; write y 2 in 1 | write y 3 in 2; write y 4 in 2 | write y 5", 6, 120},
		// Writes at three places in one order: no two clerks can go round.
		{"write x 1; write y 2; write z 3 | write x 4; write y 5; write z 6", 8, 8}, {"write x 1 in 1; write y 2 in 1; write z 3 in 1 | write x 4 in 2; write y 5 in 2; write z 6 in 2", 2, 8},
		// Reads beside one write, and one read beside writes; in one go they see one thing.
		{"read x; read x; read x | write x 8", 4, 8}, {"read x in 1; read x in 1; read x in 1 | write x 8", 2, 8}, {"write x 1; write x 2; write x 3; write x 4 | read x", 5, 120}, {"write x 1 in 1; write x 2 in 1; write x 3 in 1; write x 4 in 1 | read x", 2, 120},
		// Swaps: each reads from the one just ahead of it, so that the orders count alone.
		{"swap x 1; swap x 2; swap x 3", 1, 384}, {"swap x 1 | swap x 2", 2, 18}, {"swap x 1; swap x 2 | swap x 3", 3, 384}, {"swap x 1 | swap x 2 | swap x 3", 6, 384}, {"swap x 1; swap y 2 | swap z 3", 1, 8}, {"swap x 1 | write x 2 | write x 3", 6, 24},
	} {
		if met := mustHaveSlow(t, clerksNamed(c.text)); met.ok != c.ok || met.tales != c.tales {
			t.Errorf("of %q: %v, want %d of %d", c.text, met, c.ok, c.tales)
		}
	}
}

// All tales that are SlowOk, in the order of TaleAt; the others of these works are not.
func TestSlowOkByHand(t *testing.T) {
	for text, words := range map[string]string{
		"-": "/012", "wait | -": "/012", "read x": "0/012", "write x 1": "/0312", "write x 1; read x": "3/0312", "read x; write x 1": "0/0412",
		// Each writes and reads the other one's place: both may see nothing, but not where both wait, or swap, or do it in one go.
		"write x 1; read y | write y 1; read x": "10/03152 13/03152 50/03152 53/03152", "write x 1; wait; read y | write y 1; read x": "10/03152 13/03152 50/03152 53/03152", "write x 1; read y | write y 1; wait; read x": "10/03152 13/03152 50/03152 53/03152", "write x 1; wait; read y | write y 1; wait; read x": "13/03152 50/03152 53/03152",
		"wait; write x 1; read y; wait | wait; write y 1; read x; wait": "10/03152 13/03152 50/03152 53/03152", "swap x 1; read y | swap y 1; read x": "0114/04172 0710/04172 0714/04172",
		"write x 1 in 1; read y in 1 | write y 1 in 2; read x in 2": "13/03152 50/03152", "write x 1 in 1; read y | write y 1; read x": "10/03152 13/03152 50/03152 53/03152", "write x 1 in 1; read y | write y 1; read x in 2": "13/03152 50/03152 53/03152",
		// What is done between: a plain read changes nothing, one of a Group waits for all notes.
		"write x 1; read z; read y | write y 1; read z; read x": "2120/03162 2123/03162 2620/03162 2623/03162", "write x 1; read z in 1; read y | write y 1; read z in 2; read x": "2123/03162 2620/03162 2623/03162",
		// Its own write is seen before others see it.
		"write x 1; read x; read y | write y 1; read y; read x": "3160/03162 3163/03162 3660/03162 3663/03162", "write x 1; read x; read y | write y 1; wait; read x": "310/03162 313/03162 360/03162 363/03162",
		"write x 1; read x | write x 2": "3/03512 3/05312 5/03512", "write x 1; read x | write x 2; read x": "33/05312 35/03512 35/05312 55/03512",
		// Notes come to the board in their order, and reads are done in theirs.
		"write x 1; write y 1 | read y; read x": "10/03142 13/03142 43/03142", "read x; write y 1 | read y; write x 1": "01/06142 04/06142 61/06142", "write x 1; write y 2 | write y 1; write x 2": "/0361452 /0361542 /0631542",
		"write x 1; write y 1 | read y; write x 2": "1/036142 1/063142 4/036142", "write x 1; write y 1 | write y 2; read x": "0/031452 0/031542 3/031452 3/031542", "write x 1; write y 1 | write y 2; wait; read x": "0/031542 3/031452 3/031542",
		"write x 1 | read x; write y 1 | read y; read x": "010/03152 013/03152 050/03152 053/03152 310/03152 313/03152 353/03152",
		// In one go: nobody sees half of it, nothing comes between.
		"swap x 1 | swap x 2": "04/04612 60/06412", "swap x 1 | write x 2": "0/04512 5/05412", "read y in 1; read y in 1 | write y 1": "11/0152 55/0152", "read y; read y | write y 1": "11/0152 15/0152 55/0152", "write x 1 in 1; write x 2 in 1 | read x": "0/03412 4/03412",
		"write x 1 in 1; write y 1 in 1 | read x; read y": "01/03142 04/03142 34/03142", "write x 1 in 1; write y 1 in 1 | read x in 2; read y in 2": "01/03142 34/03142", "write x 1; write y 1 | read x in 2; read y in 2": "01/03142 31/03142 34/03142",
	} {
		w, ok := clerksNamed(text), []string{}
		for n := range impl.TalesCount(w) {
			if tale, _ := impl.TaleAt(w, n); impl.SlowOk(w, tale) {
				ok = append(ok, wordOfTale(tale))
			}
		}
		if got := strings.Join(ok, " "); got != words {
			t.Errorf("SlowOk of %q are %s, want %s", text, got, words)
		}
		mustHaveSlow(t, w)
	}
}

// slowCase is a tale of a work that is EachOk, or not, and lines that lead round, or not.
type slowCase struct{ text, tale, round string }

func (c slowCase) webs() (slow []int64, lifted []int64) {
	w := clerksNamed(c.text)
	slow = impl.SlowWeb(w, taleNamed(c.tale))
	return slow, impl.Lifted(slow, impl.ClassesOf(impl.EventsOf(w)))
}

// mustBeSlow wants of the case whether it is a tale whose places do not run back, and whether it is SlowOk.
func (c slowCase) mustBeSlow(t *testing.T, each bool, ok bool) {
	t.Helper()
	w, tale := clerksNamed(c.text), taleNamed(c.tale)
	if !impl.TaleOk(w, tale) || impl.EachOk(w, tale) != each || impl.SlowOk(w, tale) != ok {
		t.Errorf("of %q and %s: TaleOk %v, EachOk %v, SlowOk %v", c.text, c.tale, impl.TaleOk(w, tale), impl.EachOk(w, tale), impl.SlowOk(w, tale))
	}
	mustJudgeSlow(t, slowlyOf(w), tale)
}

// Each place by itself does not run back; over two places or three it goes round by lines of SlowWeb.
func TestTalesThatGoRoundSlowly(t *testing.T) {
	for _, c := range []slowCase{
		// Both waited, and both see nothing.
		{"write x 1; wait; read y | write y 1; wait; read x", "10/03152", "34 45 56 63"}, {"write z 1; wait; read y | - | write y 1; wait; read z", "12/01523", "34 45 56 63"}, {"write x 1; wait; read y | write y 1; wait; read z | write z 1; wait; read x", "120/031527", "34 45 56 67 78 83"},
		{"swap x 1; read y | swap y 1; read x", "0110/04172", "45 57 78 84"}, {"write x 1; read z in 1; read y | write y 1; read z in 2; read x", "2120/03162", "34 45 56 67 78 83"}, {"write x 1 in 1; read y in 1 | write y 1 in 2; read x in 2", "10/03152", "34 45 56 63"},
		// The later write is seen, the earlier one is not.
		{"write x 1; write y 1 | read y; read x", "40/03142", "34 45 56 63"}, {"write x 1 | read x; write y 1 | read y; read x", "350/03152", "34 45 56 67 73"}, {"swap x 1; swap y 1 | read y; read x", "0160/04162", "46 67 78 84"},
		// Each reads what the other one writes later.
		{"read x; write y 1 | read y; write x 1", "64/06142", "34 45 56 63"}, {"read x; write y 1 | read y; write z 1 | read z; write x 1", "846/081426", "34 45 56 67 78 83"},
		// The last write at each place is the earlier one of its clerk.
		{"write x 1; write y 2 | write y 1; write x 2", "/0631452", "34 45 56 63"}, {"write x 1; write y 1 | write y 2; wait; read x", "0/031452", "34 45 56 63"}, {"write x 1; write y 1 | read y; write x 2", "4/063142", "34 45 56 63"},
	} {
		c.mustBeSlow(t, true, false)
		web, _ := c.webs()
		if round := linesNamed(len(web), c.round); !impl.Round(round) || !within(round, web) {
			t.Errorf("SlowWeb(%q, %s) = %v, without some of %s", c.text, c.tale, web, c.round)
		}
	}
}

// SlowWeb does not go round; that the events of one swap, or of one Group, are one class makes it.
func TestTalesThatGoRoundByClassAlone(t *testing.T) {
	for _, c := range []slowCase{
		// Another one's write comes between the read and the write of a swap.
		{"swap x 1 | write x 2", "0/05412", "35 54"}, {"swap x 1 | swap x 2", "00/04612", "36 54"}, {"swap x 1 | swap x 2", "00/06412", "36 54"}, {"swap z 1 | swap z 2 | swap z 3", "222/012468", "36 54"}, {"swap y 1 | - | write y 2; write y 3", "1/015642", "35 64"},
		// Between the read and the write of a Group; between its reads; between its writes.
		{"read y in 1; write y 1 in 1 | write y 2", "1/01542", "35 54"}, {"read y in 1; read y in 1 | write y 1", "15/0152", "35 54"}, {"write x 1 in 1; write x 2 in 1 | read x", "3/03412", "35 54"}, {"write x 1 in 1; write x 2 in 1 | write x 3", "/035412", "35 54"},
		// At two places: half of a Group is seen, or sees.
		{"write x 1 in 1; write y 1 in 1 | read x; read y", "31/03142", "35 64"}, {"write x 1 in 1; write y 1 in 1 | read x in 2; read y in 2", "04/03142", "53 46"}, {"write x 1 in 1; write y 1 in 1 | read x in 2; read y in 2", "31/03142", "35 64"}, {"read x in 1; read y in 1 | write x 1; write y 1", "06/05162", "35 64"},
		{"write x 1 in 1; read y in 1 | write y 1 in 2; read x in 2", "53/03152", "54 36"}, {"write x 1 in 1; write y 1 in 1 | read x; write z 1 | read z; read y", "361/031426", "35 84"},
	} {
		c.mustBeSlow(t, true, false)
		web, lifted := c.webs()
		if impl.Round(web) || !impl.Round(lifted) || !within(linesNamed(len(web), c.round), web) {
			t.Errorf("SlowWeb(%q, %s) = %v, lifted %v, want %s", c.text, c.tale, web, lifted, c.round)
		}
	}
}

// These are SlowOk, and would go round if what a clerk reads of its own notes had to be on the board.
func TestAClerkSeesItsOwnBeforeOthersDo(t *testing.T) {
	for _, c := range []slowCase{
		{"write x 1; read x; read y | write y 1; read y; read x", "3160/03162", "34 45 56 67 78 83"}, {"write x 1; read x; read y | write y 1; wait; read x", "310/03162", "34 45 56 67 73"}, {"write x 1; read x; read y | - | swap y 1; read x", "3110/03172", "34 45 57 78 83"},
		// What it saw of its own comes to the board behind another one's that it does not see.
		{"write x 1; read x; read y | write y 1; write x 2", "31/073162", "34 45 56 67 73"}, {"- | write z 1; read z; read y | write y 1; write z 2", "31/016273", "34 45 56 67 73"},
		// The newest of two notes.
		{"write x 1; write x 2; read x; read y | write y 1; wait; read x", "410/034172", "45 56 67 78 84"}, {"write x 1; write x 2; read x; read y | write y 1; wait; read x", "413/034172", "45 56 67 78 84"},
	} {
		c.mustBeSlow(t, true, true)
		web, _ := c.webs()
		all := impl.Joined(web, impl.FromWeb(clerksNamed(c.text), taleNamed(c.tale).From))
		if round := linesNamed(len(web), c.round); !impl.Round(round) || !within(round, all) || within(round, web) {
			t.Errorf("SlowWeb(%q, %s) = %v, with all sources %v, want %s", c.text, c.tale, web, all, c.round)
		}
	}
}

// SlowWeb, lifted, does not go round; but one place by itself runs back.
func TestTalesThatRunBackAreNotSlowOk(t *testing.T) {
	for _, c := range []slowCase{
		// A clerk does not see its own notes, or sees an older one, or one to come.
		{"write x 1; read x", "0/0312", ""}, {"write x 1; write x 2; read x", "3/03412", ""}, {"write x 1; read x | write x 2", "0/03512", ""}, {"read x; write x 1", "4/0412", ""}, {"write x 1; read x; write x 2", "5/03512", ""}, {"read z; write y 1; write z 2", "5/01425", ""}, {"swap x 1", "4/0412", ""}, {"- | write z 1; read z; read y | write y 1; write z 2", "21/016273", ""},
		// In one class a web may go round: the lines in it are lifted away.
		{"write x 1 in 1; read x in 1", "0/0312", "34 43"}, {"write x 1 in 1; write x 2 in 1", "/04312", "34 43"}, {"write y 1 in 2; write y 2 in 2; read y in 2", "3/01342", "45 54"}, {"- | read x in 1; write x 1 in 1; read x in 1", "00/0412", "45 54"},
	} {
		c.mustBeSlow(t, false, false)
		web, lifted := c.webs()
		if impl.Round(lifted) || impl.Round(web) != (c.round != "") || !within(linesNamed(len(web), c.round), web) {
			t.Errorf("SlowWeb(%q, %s) = %v, lifted %v", c.text, c.tale, web, lifted)
		}
	}
	// These run back and go round.
	for _, c := range []slowCase{{"write x 1; write x 2", "/04312", ""}, {"read x; read x | write x 1", "50/0512", ""}, {"write x 1; wait; read x", "0/0312", ""}, {"swap x 1 | write x 2", "5/04512", ""}, {"read x; write x 1 | write x 2", "5/04512", ""}} {
		c.mustBeSlow(t, false, false)
		if _, lifted := c.webs(); !impl.Round(lifted) {
			t.Errorf("SlowWeb(%q, %s), lifted, is %v", c.text, c.tale, lifted)
		}
	}
}

func TestFromOthersByHand(t *testing.T) {
	for _, c := range []struct {
		text, from string
		events     int
		want       string
	}{
		// No reads: no lines, but a web.
		{"-", "", 3, ""}, {"wait | - | wait", "", 3, ""}, {"write x 1", "", 4, ""}, {"write x 1; write y 2 | write z 3", "", 6, ""},
		// Lines from the beginnings stay, whoever reads.
		{"read x", "0", 4, "03"}, {"- | read y", "1", 4, "13"}, {"- | - | read z; read z", "22", 5, "23 24"}, {"read x; read y | read z; read x", "0120", 7, "03 14 25 06"}, {"write x 1; read x", "0", 5, "04"}, {"read x; write x 1", "0", 5, "03"},
		// Of its own: written before and later, by each clerk, with a wait between.
		{"write x 1; read x", "3", 5, ""}, {"read x; write x 1", "4", 5, ""}, {"- | write y 1; read y", "3", 5, ""}, {"- | - | write z 1; read z", "3", 5, ""}, {"write x 1; wait; read x", "3", 5, ""}, {"write x 1; read y; write x 2; read x", "13", 7, "14"},
		// Of another one's: each clerk of each.
		{"write x 1 | read x", "3", 5, "34"}, {"read x | write x 1", "4", 5, "43"}, {"write z 1 | - | read z", "3", 5, "34"}, {"- | write z 1 | read z", "3", 5, "34"}, {"- | read y | write y 1", "4", 5, "43"}, {"read x | - | write x 1", "4", 5, "43"}, {"write x 1; wait | wait; read x", "3", 5, "34"},
		{"write x 1; read y | write y 1; read x", "53", 7, "54 36"}, {"write x 1; read y | write y 1; read x", "10", 7, "14 06"}, {"write x 1; read y | write y 1; read x", "13", 7, "14 36"}, {"write x 1; read y | write y 1; read x", "50", 7, "54 06"},
		// Both.
		{"write x 1; read x; read x | write x 2", "36", 7, "65"}, {"write x 1; read x; read x | write x 2", "63", 7, "64"}, {"write x 1; read x; read x | write x 2", "33", 7, ""}, {"write x 1; read x; read x | write x 2", "66", 7, "64 65"}, {"write x 1; read x; read x | write x 2", "06", 7, "04 65"},
		{"write x 1; read x | read x | read x", "333", 7, "35 36"}, {"read x | write x 1; read x | read x", "444", 7, "43 46"}, {"read x | read x | write x 1; read x", "555", 7, "53 54"},
		// Swaps: from another one's swap, from its clerk's, from its own write.
		{"swap x 1", "0", 5, "03"}, {"swap x 1", "4", 5, ""}, {"swap x 1 | swap x 2", "04", 7, "03 45"}, {"swap x 1 | swap x 2", "60", 7, "63 05"}, {"swap x 1 | swap x 2", "64", 7, "63 45"}, {"swap x 1 | swap x 2", "46", 7, ""}, {"swap x 1 | swap x 2", "00", 7, "03 05"}, {"swap x 1 | swap x 2", "44", 7, "45"},
		{"swap y 1; swap y 2", "14", 7, "13"}, {"swap y 1; swap y 2", "64", 7, ""}, {"swap z 1 | swap z 2 | swap z 3", "246", 9, "23 45 67"}, {"swap z 1 | swap z 2 | swap z 3", "864", 9, "83 47"}, {"swap x 1; read x | read x", "044", 7, "03 46"},
		// Groups.
		{"write x 1 in 1; read x in 1", "3", 5, ""}, {"write x 1 in 1; read x in 1", "0", 5, "04"}, {"write x 1 in 1; read x in 1 | write x 2 in 2", "5", 6, "54"}, {"write x 1 in 1; read x in 2 | read x in 3", "33", 6, "35"},
	} {
		w, from := clerksNamed(c.text), numbersNamed(c.from)
		if got, want := impl.FromOthers(w, from), linesNamed(c.events, c.want); !sameList(got, want) {
			t.Errorf("FromOthers(%q, %s) = %v, want %v", c.text, c.from, got, want)
		}
		mustHaveOthers(t, slowlyOf(w), from)
	}
}

// By the program's own answers: of FromWeb those are left out that lie between two events of one clerk, and both sorts are met.
func TestFromOthersIsFromWebLessItsOwn(t *testing.T) {
	stayed, left := 0, 0
	for _, text := range []string{"swap x 1 | swap x 2 | swap x 3", "write x 1; read x; read y | write y 3; read x; read y", "read x; read x; write x 1; write x 2 | write x 3; read z", "write z 1; read z in 1; write z 2 in 1 | wait; read z; swap z 3", "read y; read z | read x; read y", "swap y 1; swap y 2; read y | read y"} {
		w := clerksNamed(text)
		list := eventsTold(w)
		own := drawn(len(list), func(i, j int) bool { return list[i].Clerk >= 0 && list[i].Clerk == list[j].Clerk })
		for n := range impl.SourcesCount(w) {
			from := impl.SourceAt(w, n)
			all, got := impl.FromWeb(w, from), impl.FromOthers(w, from)
			if !sameList(got, impl.Less(all, own)) {
				t.Fatalf("FromOthers(%q, %v) = %v of %v", text, from, got, all)
			}
			stayed, left = stayed+countLines(got), left+countLines(impl.Common(all, own))
		}
	}
	if stayed == 0 || left == 0 {
		t.Errorf("%d lines stayed, %d were left out", stayed, left)
	}
}

// What is told is without the lines from the first three to all others, which each of these webs has.
func TestSlowWebByHand(t *testing.T) {
	for _, c := range []struct {
		text, tale string
		events     int
		want       string
	}{
		{"-", "/012", 3, ""}, {"wait | wait; wait", "/012", 3, ""}, {"read x", "0/012", 4, ""}, {"write y 1", "/0132", 4, ""}, {"read x | read y", "01/012", 5, ""},
		// One of these lines is of one kind alone: Kept, of the source, of the rows in both orders, against.
		{"read x; read x", "00/012", 5, "34"}, {"write x 1; write y 1", "/03142", 5, "34"}, {"read x; write y 1", "0/0142", 5, "34"}, {"write x 1 | read x", "3/0312", 5, "34"}, {"write x 1 | write x 2", "/03412", 5, "34"}, {"write x 1 | write x 2", "/04312", 5, "43"}, {"write x 1 | read x", "0/0312", 5, "43"},
		// What is not Kept, and its own source: no line.
		{"write x 1; read x", "3/0312", 5, ""}, {"write x 1; read y", "1/0312", 5, ""}, {"write x 1; wait; read x", "3/0312", 5, "34"}, {"write x 1; read x", "0/0312", 5, "43"}, {"read x; write x 1", "0/0412", 5, "34"}, {"read x; write x 1", "4/0412", 5, "34"},
		// Two places.
		{"write x 1; read y | write y 1; read x", "10/03152", 7, "45 63"}, {"write x 1; read y | write y 1; read x", "53/03152", 7, "54 36"}, {"write x 1; read y | write y 1; read x", "13/03152", 7, "45 36"}, {"write x 1; read y | write y 1; read x", "50/03152", 7, "54 63"}, {"write x 1; wait; read y | write y 1; read x", "10/03152", 7, "34 45 63"}, {"write x 1; wait; read y | write y 1; wait; read x", "10/03152", 7, "34 45 56 63"},
		{"write x 1; write y 1 | read y; read x", "40/03142", 7, "34 56 45 63"}, {"write x 1 | read x; write y 1 | read y; read x", "350/03152", 8, "45 67 34 56 73"}, {"write x 1; read z; write y 1 | read z", "22/03152", 7, "35 45"},
		// Its own and another one's.
		{"write x 1; read x | write x 2", "3/03512", 6, "35 45"}, {"write x 1; read x | write x 2", "5/03512", 6, "35 54"}, {"write x 1; read x | write x 2", "3/05312", 6, "53"}, {"write x 1; read x | write x 2", "5/05312", 6, "53 54 43"}, {"write x 1; read x | write x 2", "0/03512", 6, "35 43 45"},
		// Swaps.
		{"swap x 1", "0/0412", 5, "34"}, {"swap x 1", "4/0412", 5, "34"}, {"swap x 1 | swap x 2", "04/04612", 7, "34 56 46 45 36"}, {"swap x 1 | swap x 2", "00/04612", 7, "34 56 46 36 54"}, {"swap x 1 | swap x 2", "64/04612", 7, "34 56 46 63 45"}, {"swap x 1 | swap x 2", "44/04612", 7, "34 56 46 36 45"},
		{"swap x 1; read y", "01/0412", 6, "34 35 45"}, {"write x 1; swap y 2; read z", "12/03152", 7, "34 35 45 46 56"},
		// Groups.
		{"write x 1 in 1; read y in 1 | write y 1; read x", "10/03152", 7, "34 45 63"}, {"write x 1 in 1; read x in 1", "3/0312", 5, "34"}, {"write x 1; read y in 1", "1/0312", 5, "34"}, {"read x in 1; write x 2 in 1 | write x 3", "5/05412", 6, "34 53 54"},
	} {
		w := clerksNamed(c.text)
		if got, want := impl.SlowWeb(w, taleNamed(c.tale)), withBeginnings(linesNamed(c.events, c.want)); !sameList(got, want) {
			t.Errorf("SlowWeb(%q, %s) = %v, want %v", c.text, c.tale, got, want)
		}
		mustJudgeSlow(t, slowlyOf(w), taleNamed(c.tale))
	}
}

// By the program's own answers: the four webs and nothing else, and no line of one kind is left out for another one's.
func TestSlowWebIsAllFourJoined(t *testing.T) {
	alone := [4]int{}
	for _, text := range []string{"swap x 1 | swap x 2 | swap x 3", "write x 1; read y; write x 2 | write y 3; read x; write y 4", "read x; read x; write x 1; write x 2 | write x 3; read z", "write z 1; read z in 1; write z 2 in 1 | wait; read z; swap z 3", "read y; read z | read x; read y"} {
		w := clerksNamed(text)
		size := len(eventsTold(w))
		for n := range impl.TalesCount(w) {
			tale, _ := impl.TaleAt(w, n)
			kinds := [4][]int64{impl.Kept(w), impl.FromOthers(w, tale.From), impl.RowWeb(w, tale.Rows), impl.AgainstWeb(w, tale)}
			all := emptyWeb(size)
			for i, kind := range kinds {
				all = impl.Joined(all, kind)
				others := emptyWeb(size)
				for j, other := range kinds {
					if i != j {
						others = impl.Joined(others, other)
					}
				}
				alone[i] += countLines(impl.Less(kind, others))
			}
			if got := impl.SlowWeb(w, tale); !sameList(got, all) {
				t.Fatalf("SlowWeb(%q, %v) = %v, want %v", text, tale, got, all)
			}
		}
	}
	for i, n := range alone {
		if n == 0 {
			t.Errorf("no line that is of kind %d alone", i)
		}
	}
}

// What is written is not asked; a wait, a swap in place of a read and a write, and a Group are.
func TestWhatSlowOkAsks(t *testing.T) {
	for _, c := range []struct {
		one, other string
		same       bool
	}{
		{"write x 1; read y | write y 1; read x", "write x 7; read y | write y 9; read x", true}, {"write x 1; read y | write y 1; read x", "wait; write x 1; read y | write y 1; read x; wait", true}, {"write x 1; read y | write y 1; read x", "write x 1; wait; read y | write y 1; wait; read x", false},
		{"swap x 1 | swap x 2", "swap x 5 | swap x 5", true}, {"swap x 1 | swap x 2", "read x; write x 1 | read x; write x 2", false}, {"swap x 1 | swap x 2", "read x in 3; write x 1 in 3 | read x in 7; write x 2 in 7", true},
		{"write x 1; write y 1 | read x; read y", "write x 1 in 1; write y 1 in 2 | read x in 3; read y in 4", true}, {"write x 1; write y 1 | read x; read y", "write x 1 in 1; write y 1 in 1 | read x; read y", false},
	} {
		one, other, same := clerksNamed(c.one), clerksNamed(c.other), true
		for n := range impl.TalesCount(one) {
			tale, _ := impl.TaleAt(one, n)
			same = same && impl.SlowOk(one, tale) == impl.SlowOk(other, tale)
		}
		if same != c.same || impl.TalesCount(one) != impl.TalesCount(other) {
			t.Errorf("%q and %q have the same tales: %v", c.one, c.other, same)
		}
	}
}

// mustHaveNoSlow is of what is no tale; its source may be right by itself.
func mustHaveNoSlow(t *testing.T, w [][]impl.Deed, tale impl.Tale) {
	t.Helper()
	if web := impl.SlowWeb(w, tale); impl.SlowOk(w, tale) || len(web) != 0 {
		t.Errorf("of %v and %v: SlowOk is %v, with %v", w, tale, impl.SlowOk(w, tale), web)
	}
}

func mustHaveNoOthers(t *testing.T, w [][]impl.Deed, from []int64) {
	t.Helper()
	if web := impl.FromOthers(w, from); len(web) != 0 {
		t.Errorf("FromOthers(%v, %v) = %v", w, from, web)
	}
}

func TestNoOthersOfNoSource(t *testing.T) {
	for _, c := range []struct{ text, sources string }{
		{"-", "0 1 2 3 00 012"}, {"write x 1", "0 3 00"}, {"read x", "1 2 3 4 9 00 000"}, {"write x 1; read x", "1 2 4 5 00 03 30 33"}, {"write x 1 | read x", "1 2 4 5 9 33 03"},
		{"swap x 1 | swap x 2", "0 4 6 3 03 30 05 50 14 41 45 34 000 046 0404"}, {"write x 1; read y | write y 1; read x", "01 35 15 30 1 5 0 3 105 530"},
	} {
		w := clerksNamed(c.text)
		for word := range strings.FieldsSeq(c.sources) {
			mustHaveNoOthers(t, w, numbersNamed(word))
		}
	}
}

// The source is wrong, the rows are, both are.
func TestNoSlowWebOfNoTale(t *testing.T) {
	for _, c := range []struct{ text, tales string }{
		{"-", "/ 0/012 /01 /0123 /021 0/0 012/"}, {"read x", "/012 1/012 3/012 00/012 0/ 0/021 0/0123 3/0312"},
		{"write x 1; read x", "/ 3/ /0312 4/0312 1/0312 33/0312 3/012 3/0321 3/3012 3/0412 3/03122 4/0412 0312/3"},
		{"write x 1; read x | write x 2", "5/0351 5/035122 5/03412 5/03312 5/30512 4/03512 1/03512 55/03512 /03512 6/03612 9/03512"},
		{"swap x 1 | swap x 2", "0/04612 444/04612 43/04612 64/0462 64/046612 64/03512 64/46012 64/04621 53/03512"},
		{"write x 1; read y | write y 1; read x", "01/03152 35/03152 10/0315 10/15203 10/03512 1/03152 105/03152"},
	} {
		w := clerksNamed(c.text)
		for word := range strings.FieldsSeq(c.tales) {
			mustHaveNoSlow(t, w, taleNamed(word))
			mustJudgeSlow(t, slowlyOf(w), taleNamed(word))
		}
		first, _ := impl.TaleAt(w, 0)
		for _, n := range append([]int64{-1, -2, -9, 9, 10, 11, 12, 13, 64, 1 << 32, 1<<32 + 1, 1 << 62}, far...) {
			for i := range len(first.From) + len(first.Rows) {
				tale := copiedTale(first)
				if i < len(tale.From) {
					tale.From[i] = n
					mustHaveNoOthers(t, w, tale.From)
				} else {
					tale.Rows[i-len(tale.From)] = n
				}
				mustHaveNoSlow(t, w, tale)
			}
		}
	}
}

// Tales whose source, whose rows, and both of which are one off: some of them are tales again.
func TestSlowOfTalesOneOff(t *testing.T) {
	for _, text := range []string{"-", "read y", "write x 1; read x | write x 2", "swap x 1 | swap x 2", "write x 1; read y | write y 1; read x"} {
		w := clerksNamed(text)
		s := slowlyOf(w)
		others := []int64{-1, 12}
		for n := range int64(len(s.list)) + 1 {
			others = append(others, n)
		}
		for _, tale := range someTales(w) {
			sources := oneOff(tale.From, others)
			for _, from := range sources {
				mustJudgeSlow(t, s, impl.Tale{From: from, Rows: tale.Rows})
			}
			for i, rows := range oneOff(tale.Rows, others) {
				mustJudgeSlow(t, s, impl.Tale{From: tale.From, Rows: rows})
				mustJudgeSlow(t, s, impl.Tale{From: sources[i%len(sources)], Rows: rows})
			}
			for _, wrong := range []impl.Tale{{From: tale.Rows, Rows: tale.From}, {From: tale.From}, {From: tale.Rows}, {From: tale.Rows, Rows: tale.Rows}, {From: tale.From, Rows: tale.From}} {
				mustHaveNoSlow(t, w, wrong)
			}
		}
	}
}

func TestSlowOfWhatIsNoWork(t *testing.T) {
	for _, w := range wrongWorks() {
		for _, from := range handedSources() {
			mustHaveNoOthers(t, w, from)
		}
		for _, word := range []string{"/", "/012", "0/012", "/0312", "0/0312", "00/012", "000/012", "00000/012", "0000000/012", "00000/0812", "0/04612", "111/0132", "0000/0468912", "/012345678", "012/"} {
			mustHaveNoSlow(t, w, taleNamed(word))
			mustHaveNoOthers(t, w, taleNamed(word).From)
		}
		for _, tale := range handedTales() {
			mustHaveNoSlow(t, w, tale)
		}
		mustHaveSlow(t, w)
	}
}

// The zero Tale is none, not even of a work without Deeds; but nothing is a source where nobody reads.
func TestTheZeroTaleIsNotSlowOk(t *testing.T) {
	for _, text := range append(rightWorks(), "write x 1", "write y 1 | write z 2", "read y") {
		w := clerksNamed(text)
		mustHaveNoSlow(t, w, impl.Tale{})
		mustHaveNoSlow(t, w, impl.Tale{From: []int64{}, Rows: []int64{}})
		if reads, web := readsTold(eventsTold(w)), impl.FromOthers(w, nil); (len(reads) == 0) != (len(web) > 0) || countLines(web) != 0 {
			t.Errorf("FromOthers(%q, nil) = %v", text, web)
		}
	}
	mustHaveNoSlow(t, nil, impl.Tale{})
	mustHaveNoSlow(t, [][]impl.Deed{}, impl.Tale{From: []int64{}, Rows: []int64{}})
	mustHaveNoOthers(t, nil, nil)
	mustHaveNoOthers(t, [][]impl.Deed{}, []int64{})
}

// Tales of one work are handed beside another one; and the source of one with the rows of the other.
func TestSlowOfAnotherWork(t *testing.T) {
	texts := []string{"-", "read x", "read y", "write x 1", "write y 1", "swap x 1", "write x 1; read x", "read x; write x 1", "write x 1 | read x", "write x 1; read y | write y 1; read x", "write x 1; wait; read y | write y 1; wait; read x", "write y 1; read x | write x 1; read y", "swap x 1 | swap x 2", "read x; write x 1 | read x; write x 2", "write x 1; write x 2; read x | read x"}
	met := map[[2]bool]int{}
	for _, own := range texts {
		s := slowlyOf(clerksNamed(own))
		first, _ := impl.TaleAt(s.w, 0)
		for _, other := range texts {
			for n := range impl.TalesCount(clerksNamed(other)) {
				tale, _ := impl.TaleAt(clerksNamed(other), n)
				is := mustJudgeSlow(t, s, tale)
				mustJudgeSlow(t, s, impl.Tale{From: first.From, Rows: tale.Rows})
				mustJudgeSlow(t, s, impl.Tale{From: tale.From, Rows: first.Rows})
				met[[2]bool{is, impl.SlowOk(clerksNamed(other), tale)}]++
			}
		}
	}
	for _, both := range [][2]bool{{false, false}, {false, true}, {true, false}, {true, true}} {
		if met[both] == 0 {
			t.Errorf("no tale that is SlowOk of its own and of the other work: %v", both)
		}
	}
	// By hand: the place is another one, the number is, and there are as many of both.
	for _, c := range []struct{ text, tale string }{
		{"read y", "0/012"}, {"read x", "1/012"}, {"write y 1", "/0312"}, {"write x 1", "/0132"}, {"write x 1; read x", "4/0412"}, {"read x; write x 1", "3/0312"}, {"swap x 1", "3/0312"},
		{"write y 1; read x | write x 1; read y", "13/03152"}, {"write x 1; write x 2", "0/0312"}, {"-", "0/012"}, {"read x", "/012"}, {"write x 1 | read x", "4/0412"},
	} {
		mustHaveNoSlow(t, clerksNamed(c.text), taleNamed(c.tale))
	}
}

func TestSlowOfVeryLongLists(t *testing.T) {
	const long = 1 << 20
	clerks, zeros := make([][]impl.Deed, long), make([]int64, long)
	mustHaveSlow(t, clerks[:3])
	works := [][][]impl.Deed{clerks, clerks[:4]}
	for _, d := range []impl.Deed{{}, {Kind: 4}, {Kind: 3, Value: 1}} {
		list := make([]impl.Deed, long)
		for i := range list {
			list[i] = d
		}
		works = append(works, workOf(list), workOf(nil, list, nil), workOf(list, list, list))
	}
	for _, w := range works {
		mustHaveNoOthers(t, w, nil)
		mustHaveNoOthers(t, w, zeros)
		mustHaveNoSlow(t, w, impl.Tale{Rows: []int64{0, 1, 2}})
		mustHaveNoSlow(t, w, impl.Tale{From: zeros, Rows: zeros})
	}
	for _, text := range []string{"-", "read x", "write x 1; read x | swap x 2", "write y 1; write y 2; write y 3; write y 4; write y 5 | write y 6"} {
		w := clerksNamed(text)
		first, _ := impl.TaleAt(w, 0)
		for _, n := range []int{1, 7, 9, 12, 13, 64, 257, long} {
			more := impl.Tale{From: append(copied(first.From), zeros[:n]...), Rows: append(copied(first.Rows), zeros[:n]...)}
			mustHaveNoOthers(t, w, more.From)
			for _, tale := range []impl.Tale{more, {From: first.From, Rows: more.Rows}, {From: more.From, Rows: first.Rows}} {
				mustHaveNoSlow(t, w, tale)
			}
		}
	}
}

func askedForSlow(t *testing.T) asking {
	return func(w [][]impl.Deed, list []impl.Event, tale impl.Tale) {
		mustJudgeSlow(t, slowlyOf(w), tale)
		spoil(impl.FromOthers(w, tale.From))
		spoil(impl.SlowWeb(w, tale))
	}
}

func TestSlowLeavesItsArgumentsAlone(t *testing.T) { mustLeaveTalesAlone(t, askedForSlow(t)) }

func TestSlowOfListsInOneMemory(t *testing.T) { mustTakeOneMemory(t, askedForSlow(t)) }

func TestSlowWebsAreNewMemory(t *testing.T) {
	for _, w := range taleWorks() {
		l, s := laid(w), slowlyOf(w)
		before := l.copied()
		count := max(talesCounted(s.list), 0)
		// All are asked for ahead of the first one that is spoilt, so that two that lie in one memory are found.
		tales, webs, others := []impl.Tale{}, [2][][]int64{}, [2][][]int64{}
		for n := range count {
			tale, _ := impl.TaleAt(l.given, n)
			tales = append(tales, tale)
			for i := range 2 {
				webs[i], others[i] = append(webs[i], impl.SlowWeb(l.given, tale)), append(others[i], impl.FromOthers(l.given, tale.From))
			}
		}
		for n := range count {
			tale := taleTold(s.list, n)
			web, other := s.slowWebTold(tale), s.fromOthersTold(tale.From)
			areLeft := func() bool { return sameList(webs[1][n], web) && sameList(others[1][n], other) }
			if !areLeft() || !sameList(webs[0][n], web) || !sameList(others[0][n], other) || !sameTale(tales[n], tale) {
				t.Fatalf("of %v two answers share memory: %v, %v, %v, %v, %v", w, webs[0][n], webs[1][n], others[0][n], others[1][n], tales[n])
			}
			spoil(webs[0][n])
			spoil(others[0][n])
			if !areLeft() || !sameTale(tales[n], tale) {
				t.Fatalf("SlowWeb(%v, %v) or FromOthers shares memory", w, tale)
			}
			// What was handed in is spoilt, and the answers stay.
			spoil(tales[n].From)
			spoil(tales[n].Rows)
			if !areLeft() {
				t.Fatalf("SlowWeb(%v, %v) or FromOthers lies in the tale's memory", w, tale)
			}
			spoil(webs[1][n])
			if !sameList(others[1][n], other) {
				t.Fatalf("SlowWeb(%v, %v) lies in the memory of FromOthers", w, tale)
			}
			spoil(others[1][n])
		}
		spoil(impl.SlowWeb(l.given, impl.Tale{}))
		spoil(impl.FromOthers(l.given, nil))
		mustHaveSlow(t, w)
		if !l.isAs(before) {
			t.Errorf("an answer of %v shares memory with it", w)
		}
	}
}

// A tale may be changed, and handed in again: it is asked by what it is now.
func TestSlowOfATaleThatIsChanged(t *testing.T) {
	w := clerksNamed("write x 1; wait; read y | write y 1; wait; read x")
	tale, _ := impl.TaleAt(w, 0)
	for _, c := range []struct {
		tale string
		ok   bool
	}{{"10/03152", false}, {"13/03152", true}, {"53/03152", true}, {"43/03152", false}, {"50/03152", true}, {"50/03125", false}, {"50/03152", true}, {"10/03152", false}} {
		now := taleNamed(c.tale)
		copy(tale.From, now.From)
		copy(tale.Rows, now.Rows)
		if got := impl.SlowOk(w, tale); got != c.ok {
			t.Errorf("SlowOk of %s is %v", c.tale, got)
		}
		mustJudgeSlow(t, slowlyOf(w), tale)
	}
}

// One list may be several clerks': each of them has reads, writes and notes of its own.
func TestSlowOfOneListForAllClerks(t *testing.T) {
	for _, list := range [][]impl.Deed{{}, clerkOf("read x"), clerkOf("write x 1"), clerkOf("write x 1", "read x"), clerkOf("write x 1", "wait", "read x"), clerkOf("read x", "read x"), clerkOf("swap x 1"), clerkOf("read x in 1")} {
		mustHaveSlow(t, workOf(list, list))
		mustHaveSlow(t, workOf(list, list, list))
	}
}
