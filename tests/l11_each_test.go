package tests

import (
	"slices"
	"strings"
	"testing"

	"loop.example/g00411/impl"
)

// placeWebTold has a line where one of the four kinds has it.
func placeWebTold(w [][]impl.Deed, list []impl.Event, tale impl.Tale) []int64 {
	if !isTale(list, tale) {
		return nil
	}
	kinds := []grid{gridOf(linesTold(w).atOnePlace), gridOf(fromWebTold(list, tale.From)), gridOf(rowWebTold(list, tale.Rows)), gridOf(againstTold(list, tale))}
	return drawn(len(list), func(i, j int) bool {
		return slices.ContainsFunc(kinds, func(kind grid) bool { return kind[i][j] })
	})
}

// onePlace is what is left to do at one place: of each clerk its events there, and the writes that still come, in the order of the rows.
type onePlace struct {
	clerks [3][]int64
	rows   []int64
	last   int64
}

// canGoOn lets the clerks do one event behind the other, in all ways there are, without a line: a write where it is next in the rows, a read where the write it is from is the last one.
func (p onePlace) canGoOn(from map[int64]int64) bool {
	done := true
	for c, own := range p.clerks {
		if len(own) == 0 {
			continue
		}
		done = false
		next, then := own[0], p
		then.clerks[c] = own[1:]
		write, reads := from[next]
		if reads && write != p.last {
			continue
		}
		if !reads {
			if p.rows[0] != next {
				continue
			}
			then.rows, then.last = p.rows[1:], next
		}
		if then.canGoOn(from) {
			return true
		}
	}
	return done
}

// isEach asks of each place by itself whether the clerks can do just what is told.
func isEach(list []impl.Event, tale impl.Tale) bool {
	if !isTale(list, tale) {
		return false
	}
	from := map[int64]int64{}
	for at, read := range readsTold(list) {
		from[read] = tale.From[at]
	}
	for place := range int64(3) {
		p := onePlace{last: place}
		for n, e := range list {
			if e.Clerk >= 0 && e.Place == place {
				p.clerks[e.Clerk] = append(p.clerks[e.Clerk], int64(n))
			}
		}
		for _, write := range tale.Rows {
			if write > 2 && list[write].Place == place {
				p.rows = append(p.rows, write)
			}
		}
		if !p.canGoOn(from) {
			return false
		}
	}
	return true
}

// mustSeeItsOwn is promise 11, word by word: it answers how many reads had a write of their clerk ahead of them or behind them.
func mustSeeItsOwn(t *testing.T, w [][]impl.Deed, list []impl.Event, tale impl.Tale) int {
	t.Helper()
	bound := 0
	for at, read := range readsTold(list) {
		last, seat := int64(-1), slices.Index(tale.Rows, tale.From[at])
		for n, e := range list {
			if e.Reads || e.Place != list[read].Place || e.Clerk != list[read].Clerk {
				continue
			}
			if int64(n) < read {
				last = int64(n)
				continue
			}
			bound++
			if tale.From[at] == int64(n) {
				t.Fatalf("of %v and %v: %d reads what its clerk wrote later", w, tale, read)
			}
		}
		if last < 0 {
			continue
		}
		bound++
		if seat < slices.Index(tale.Rows, last) {
			t.Fatalf("of %v and %v: %d is from ahead of %d", w, tale, read, last)
		}
	}
	return bound
}

// each counts the tales of works: how many there were, of how many each place by itself does not run back, and how many reads promise 11 spoke of.
type each struct{ tales, ok, bound int }

func (e *each) add(more each) {
	e.tales, e.ok, e.bound = e.tales+more.tales, e.ok+more.ok, e.bound+more.bound
}

// mustJudgeEach holds what chapter 11 tells of a tale, or of what is none, against what the test tells by lines and without; it answers whether it is EachOk.
func mustJudgeEach(t *testing.T, w [][]impl.Deed, list []impl.Event, tale impl.Tale) bool {
	t.Helper()
	want := placeWebTold(w, list, tale)
	if got := impl.PlaceWeb(w, tale); !sameList(got, want) {
		t.Fatalf("PlaceWeb(%v, %v) = %v, want %v", w, tale, got, want)
	}
	is := isEach(list, tale)
	if got := impl.EachOk(w, tale); got != is || got != (isTale(list, tale) && !runsBack(want)) {
		t.Fatalf("EachOk(%v, %v) = %v", w, tale, got)
	}
	return is
}

// mustHaveEach goes through all tales that TaleAt answers, and some that are none.
func mustHaveEach(t *testing.T, w [][]impl.Deed) each {
	t.Helper()
	list, met := eventsTold(w), each{}
	for n := range max(impl.TalesCount(w), 0) {
		tale, _ := impl.TaleAt(w, n)
		met.tales++
		if mustJudgeEach(t, w, list, tale) {
			met.ok++
			met.bound += mustSeeItsOwn(t, w, list, tale)
		}
	}
	for _, tale := range []impl.Tale{{}, {From: []int64{0}}, {Rows: []int64{0, 1, 2}}, {From: []int64{0}, Rows: []int64{0, 1, 2}}, {From: []int64{0, 1, 2}}} {
		mustJudgeEach(t, w, list, tale)
	}
	if isWork(w) && met.ok == 0 {
		t.Fatalf("%v has no tale that is EachOk", w)
	}
	return met
}

// mustHaveMet wants tales of both sorts, and reads of which the promise speaks.
func mustHaveMet(t *testing.T, met each) {
	t.Helper()
	if met.ok == 0 || met.ok == met.tales || met.bound == 0 {
		t.Errorf("met: %v", met)
	}
}

// Promise 11: one clerk.
func TestAClerkSeesItsOwn(t *testing.T) {
	met := each{}
	for _, one := range clerksOf(clerkOf("read x", "write x 1", "read y", "swap y 2", "wait"), 3) {
		met.add(mustHaveEach(t, workOf(one)))
	}
	for _, one := range clerksOf(clerkOf("read x", "write x 1", "swap x 2"), 4) {
		met.add(mustHaveEach(t, workOf(nil, one)))
	}
	for _, one := range clerksOf(clerkOf("read x in 1", "write x 1 in 1", "swap x 3"), 3) {
		met.add(mustHaveEach(t, workOf(one)))
	}
	mustHaveMet(t, met)
}

// Promise 11: two clerks.
func TestTwoClerksSeeTheirOwn(t *testing.T) {
	met := each{}
	some := append(clerksOf(clerkOf("read x", "write x 1", "swap x 2"), 2), clerkOf("write x 1", "read x", "read x"), clerkOf("read x", "write x 2", "read x"), clerkOf("write y 1", "read x", "write x 3"), clerkOf("read y", "wait", "write x 3"), clerkOf("write x 1", "write y 2", "read x"))
	for _, one := range some {
		for _, two := range some {
			met.add(mustHaveEach(t, workOf(one, two)))
		}
	}
	mustHaveMet(t, met)
}

// Promise 11: three clerks.
func TestThreeClerksSeeTheirOwn(t *testing.T) {
	met := each{}
	some := append(clerksOf(clerkOf("read x", "write x 1", "swap x 2"), 1), clerkOf("write x 1", "read x"), clerkOf("read x", "write x 2"), clerkOf("write y 1", "read x"), clerkOf("read y", "wait", "write x 3"))
	for _, one := range some {
		for _, two := range some {
			for _, three := range some {
				met.add(mustHaveEach(t, workOf(one, two, three)))
			}
		}
	}
	mustHaveMet(t, met)
}

// Promise 11: more Deeds of each kind, and mixes with clerks that are not right.
func TestEachOfManyWorks(t *testing.T) {
	met := each{}
	for _, one := range mixedClerks() {
		for _, two := range mixedClerks() {
			met.add(mustHaveEach(t, workOf(one, two)))
			mustHaveEach(t, workOf(two, nil, one))
		}
	}
	for d := range shownDeeds {
		met.add(mustHaveEach(t, workOf([]impl.Deed{d})))
		met.add(mustHaveEach(t, workOf(clerkOf("write x 1", "read y"), append(clerkOf("swap z 1"), d))))
	}
	for _, text := range rightWorks() {
		met.add(mustHaveEach(t, clerksNamed(text)))
	}
	mustHaveMet(t, met)
}

func TestEachAtEachLimit(t *testing.T) {
	for _, one := range evenClerks(6) {
		for _, two := range evenClerks(2) {
			mustHaveEach(t, workOf(one, two))
		}
	}
	for reads := range 7 {
		all := append(times(6-reads, "write y 7"), times(reads, "read y")...)
		for parted := 1; parted <= 5; parted += 2 {
			mustHaveEach(t, workOf(clerkOf(all[:parted]...), clerkOf(all[parted:]...)))
			slices.Reverse(all)
		}
	}
}

// How many tales do not run back can be told by counting the ways to do it.
func TestHowManyAreEachOk(t *testing.T) {
	for _, c := range []struct {
		text      string
		ok, tales int
	}{
		{"-", 1, 1}, {"wait; wait | - | wait", 1, 1}, {"read x; read x; read x; read x; read x | read x", 1, 1},
		// Writes at one place: the ways to mix the clerks.
		{"write x 1; write x 2; write x 3; write x 4; write x 5", 1, 120}, {"write x 1; write x 2; write x 3; write x 4; write x 5 | write x 6", 6, 720}, {"write y 1; write y 2; write y 3 | write y 4; write y 5; write y 6", 20, 720}, {"write z 1; write z 2; write z 3 | write z 4; write z 5 | write z 6", 60, 720}, {"write z 1; write z 2 | write z 3; write z 4 | write z 5; write z 6", 90, 720},
		// Each place by itself: the ways of one times those of the other.
		{"write x 1; write y 2; write z 3 | write x 4; write y 5; write z 6", 8, 8}, {"write x 1; write x 2; write x 3 | write x 4; write y 5; write y 6", 4, 48},
		// One read beside five writes, reads beside one write.
		{"write x 1; write x 2; write x 3; write x 4; write x 5 | read x", 6, 720}, {"read x; read x; read x; read x; read x | write x 1", 6, 32}, {"read x; read x; read x | write x 8", 4, 8}, {"read x | read x | read x; write x 8", 4, 8},
		// Swaps: each reads from any that wrote ahead of it.
		{"swap x 1; swap x 2; swap x 3", 1, 384}, {"swap x 1 | swap x 2", 4, 18}, {"swap x 1 | swap x 2 | swap x 3", 36, 384}, {"swap x 1; swap y 2 | swap z 3", 1, 8},
	} {
		met := mustHaveEach(t, clerksNamed(c.text))
		if met.ok != c.ok || met.tales != c.tales {
			t.Errorf("of %q: %v, want %d of %d", c.text, met, c.ok, c.tales)
		}
	}
}

// All tales that are EachOk, in the order of TaleAt; the others of these works are not.
func TestEachOkByHand(t *testing.T) {
	for text, words := range map[string]string{
		"-": "/012", "read x": "0/012", "write x 1": "/0312", "read z; read y | read x": "210/012",
		// A clerk reads its own write, and none that it does later.
		"write x 1; read x": "3/0312", "read x; write x 1": "0/0412", "read y; write y 1; read y": "14/0142", "write x 1; read x; write x 2": "3/03512", "write z 1; write z 2; read z": "4/01234",
		// Others may see it, or not yet.
		"write x 1 | read x": "0/0312 3/0312", "read y | write y 1": "1/0142 4/0142", "write x 1 | write x 2": "/03412 /04312",
		// What is written does not run back.
		"write x 1; write x 2": "/03412", "write x 1; write x 2 | write x 3": "/034512 /035412 /053412",
		// What is read does not run back.
		"read x; read x | write x 1": "00/0512 05/0512 55/0512", "read x | read x | write x 1": "00/0512 05/0512 50/0512 55/0512",
		"write x 1; write x 2 | read x; read x":  "00/03412 03/03412 04/03412 33/03412 34/03412 44/03412",
		"write z 1 | write z 2 | read z; read z": "22/01234 22/01243 23/01234 23/01243 24/01234 24/01243 33/01234 33/01243 34/01234 43/01243 44/01234 44/01243",
		// What stands over one's own write may be read; what stands under one's own write to come may be.
		"write x 1; read x | write x 2": "3/03512 3/05312 5/03512", "read x; write x 1 | write x 2": "0/04512 0/05412 5/05412",
		"write y 1; read y | write y 2; read y": "33/01532 35/01352 35/01532 55/01352",
		// Swaps.
		"swap x 1": "0/0412", "swap x 1; read x": "04/0412", "swap z 1; swap z 2": "24/01246", "swap y 1 | read y": "11/0142 14/0142", "swap x 1 | write x 2": "0/04512 0/05412 5/05412",
		"swap x 1 | swap x 2": "00/04612 00/06412 04/04612 60/06412",
		// Waits and Groups change nothing here.
		"write x 1; wait; read x": "3/0312", "write x 1 in 1; read x in 1 | write x 2": "3/03512 3/05312 5/03512", "read x in 2; write x 1 in 2": "0/0412",
	} {
		w, ok := clerksNamed(text), []string{}
		for n := range impl.TalesCount(w) {
			if tale, _ := impl.TaleAt(w, n); impl.EachOk(w, tale) {
				ok = append(ok, wordOfTale(tale))
			}
		}
		if got := strings.Join(ok, " "); got != words {
			t.Errorf("EachOk of %q are %s, want %s", text, got, words)
		}
		mustHaveEach(t, w)
	}
}

// wordOfTale is what taleNamed reads.
func wordOfTale(tale impl.Tale) string {
	word := []byte{}
	for _, n := range tale.From {
		word = append(word, '0'+byte(n))
	}
	word = append(word, '/')
	for _, n := range tale.Rows {
		word = append(word, '0'+byte(n))
	}
	return string(word)
}

// Each of these runs back at one place, in a way of its own; the words behind are lines that lead round.
func TestTalesThatRunBackAtOnePlace(t *testing.T) {
	for _, c := range []struct{ text, tale, round string }{
		// By what is written: the rows turn a clerk's order round.
		{"write x 1; write x 2", "/04312", "34 43"}, {"write y 1; write y 2 | write y 3", "/014532", "34 45 53"}, {"write z 1; read x; write z 2", "0/01253", "35 53"},
		// By what is read: what its clerk writes later, at once or over what another one wrote.
		{"read x; write x 1", "4/0412", "34 43"}, {"read x; write x 1 | write x 2", "5/04512", "34 45 53"}, {"read y; write z 1; write y 2", "5/01524", "35 53"},
		// By a read that is from ahead of its clerk's own write.
		{"write x 1; read x", "0/0312", "34 43"}, {"write x 1; read x | write x 2", "5/05312", "34 43"}, {"write x 1; write x 2; read x", "3/03412", "45 54"},
		// By a read that is from an older write than its clerk saw before.
		{"read x; read x | write x 1", "50/0512", "34 45 53"}, {"read y; read y | write y 1; write y 2", "65/01562", "34 46 63"}, {"read z; read z | write z 1 | write z 2", "65/01256", "34 46 63"}, {"read x; read y; read x | write x 1", "610/0612", "35 56 63"},
		// By two clerks who see two writes in two orders.
		{"write x 1; read x | write x 2; read x", "53/03512", "56 65"}, {"write x 1; read x | write x 2; read x", "53/05312", "34 43"}, {"read x; write x 1 | read x; write x 2", "64/04612", "34 45 56 63"},
		// Swaps: from its own write, from one that stands behind that, from ahead of what its clerk swapped before.
		{"swap x 1", "4/0412", "34 43"}, {"swap x 1 | write x 2", "5/04512", "34 45 53"}, {"swap y 1 | swap y 2", "64/01462", "34 46 63"}, {"swap y 1; swap y 2", "11/01462", "45 54"}, {"swap z 1; swap z 2", "24/01264", "46 64"},
		// At one place alone: the others are as they should be.
		{"write y 1; write x 1; read x; read y", "41/04132", "36 63"}, {"write x 1; read y | write y 1; read x; read x", "130/03152", "36 67 73"},
	} {
		w, tale := clerksNamed(c.text), taleNamed(c.tale)
		if !impl.TaleOk(w, tale) || impl.EachOk(w, tale) {
			t.Errorf("of %q: %s is a tale: %v, and EachOk: %v", c.text, c.tale, impl.TaleOk(w, tale), impl.EachOk(w, tale))
		}
		list := eventsTold(w)
		if round := linesNamed(len(list), c.round); !impl.Round(round) || !within(round, impl.PlaceWeb(w, tale)) {
			t.Errorf("PlaceWeb(%q, %s) = %v, without some of %s", c.text, c.tale, impl.PlaceWeb(w, tale), c.round)
		}
		mustJudgeEach(t, w, list, tale)
	}
}

// With the lines from place to place of each clerk these go round; each place by itself does not.
func TestTalesThatGoRoundOverTwoPlaces(t *testing.T) {
	for _, c := range []struct{ text, tale string }{
		// Both write, and both see nothing.
		{"write x 1; read y | write y 1; read x", "10/03152"}, {"write x 1; wait; read y | write y 1; wait; read x", "10/03152"}, {"write z 1; read y | - | write y 1; read z", "12/01523"},
		// The later write is seen, the earlier one is not.
		{"write x 1; write y 1 | read y; read x", "40/03142"}, {"write x 1 | read x; write y 1 | read y; read x", "350/03152"},
		// Each reads what the other one writes later.
		{"read x; write y 1 | read y; write x 1", "64/06142"}, {"read x; write y 1 | read y; write z 1 | read z; write x 1", "846/081426"},
		// The last write at each place is the earlier one of its clerk.
		{"write x 1; write y 2 | write y 1; write x 2", "/0631452"}, {"write x 1; write y 1 | write y 2; read x", "0/031452"}, {"write x 1; write y 1 | read y; write x 2", "4/063142"},
		// Swaps, and Groups: that these are in one go is not asked here.
		{"swap x 1; read y | swap y 1; read x", "0110/04172"}, {"swap x 1; swap y 1 | read y; read x", "0160/04162"}, {"write x 1 in 1; write y 1 in 1 | read y in 2; read x in 2", "40/03142"},
		{"read x in 1; write y 1 in 1 | read y in 2; write x 1 in 2", "64/06142"},
	} {
		w, tale := clerksNamed(c.text), taleNamed(c.tale)
		if !impl.EachOk(w, tale) || impl.Round(impl.PlaceWeb(w, tale)) {
			t.Errorf("EachOk(%q, %s) = false, by %v", c.text, c.tale, impl.PlaceWeb(w, tale))
		}
		if !impl.Round(impl.Joined(impl.Behind(w), impl.PlaceWeb(w, tale))) {
			t.Errorf("%s of %q does not go round over two places", c.tale, c.text)
		}
		mustJudgeEach(t, w, eventsTold(w), tale)
	}
}

// Another one's write may come between the read and the write of a swap: this is told by lifting, which is not asked here.
func TestSwapsThatArePartedAreEachOk(t *testing.T) {
	for _, c := range []struct{ text, tale string }{
		{"swap x 1 | write x 2", "0/05412"}, {"swap x 1 | swap x 2", "00/04612"}, {"swap x 1 | swap x 2", "00/06412"}, {"swap z 1 | swap z 2 | swap z 3", "222/012468"}, {"read y in 1; write y 1 in 1 | write y 2", "1/01542"},
	} {
		w, tale := clerksNamed(c.text), taleNamed(c.tale)
		lifted := impl.Lifted(impl.PlaceWeb(w, tale), impl.ClassesOf(impl.EventsOf(w)))
		if !impl.EachOk(w, tale) || !impl.Round(lifted) {
			t.Errorf("EachOk(%q, %s) = %v, lifted %v", c.text, c.tale, impl.EachOk(w, tale), lifted)
		}
	}
}

func TestPlaceWebByHand(t *testing.T) {
	for _, c := range []struct {
		text, tale string
		events     int
		want       string
	}{
		// No events; places that nobody writes to, or reads from.
		{"-", "/012", 3, ""}, {"wait | wait; wait", "/012", 3, ""}, {"read x", "0/012", 4, "03"}, {"read y", "1/012", 4, "13"}, {"read z; read z", "22/012", 5, "23 24 34"}, {"read x; read y | read z; read x", "0120/012", 7, "03 14 25 06"}, {"read y | read y", "11/012", 5, "13 14"},
		{"write x 1", "/0312", 4, "03"}, {"write y 1 | write z 1", "/01324", 5, "13 24"}, {"write x 1; read z; write y 1 | read z", "22/03152", 7, "03 24 26 15"},
		// One of these lines is of one kind alone: of its clerk, of the source, of the rows in both orders, against.
		{"read x; read x", "00/012", 5, "03 04 34"}, {"write x 1 | read x", "3/0312", 5, "03 04 34"}, {"write x 1 | write x 2", "/04312", 5, "03 04 43"}, {"write x 1 | write x 2", "/03412", 5, "03 04 34"}, {"write x 1 | read x", "0/0312", 5, "03 04 43"},
		// All kinds, and round.
		{"write x 1; read x | write x 2", "5/03512", 6, "03 04 05 34 35 54"}, {"write x 1; read x | write x 2", "5/05312", 6, "03 04 05 34 53 54 43"}, {"write x 1; read x | write x 2", "0/03512", 6, "03 04 05 34 35 43 45"}, {"write x 1; read x | write x 2", "3/05312", 6, "03 04 05 34 53"},
		{"read x; write x 1 | read x", "44/0412", 6, "03 04 05 34 43 45"}, {"read x; write x 1 | read x", "00/0412", 6, "03 04 05 34 54"},
		{"read y; read y | write y 1", "51/0152", 6, "13 14 15 34 53 45"}, {"read y; read y | write y 1", "15/0152", 6, "13 14 15 34 35 54"},
		{"write z 1; write z 2; write z 3", "/012543", 6, "23 24 25 34 35 45 54 53 43"}, {"write z 1 | write z 2 | write z 3", "/012534", 6, "23 24 25 53 54 34"},
		// Two places: no line goes from one to the other.
		{"write x 1; read y | write y 1; read x", "10/03152", 7, "03 06 14 15 45 63"}, {"write x 1; read y | write y 1; read x", "53/03152", 7, "03 06 14 15 54 36"}, {"write x 1; write y 1 | read y; read x", "40/03142", 7, "03 06 14 15 45 63"}, {"write x 1; wait; write y 2 | write y 1; write x 2", "/0631542", 7, "03 06 63 14 15 54"},
		{"write x 1; read z; read x; read z", "232/0312", 7, "03 05 24 26 35 46"},
		// Swaps.
		{"swap x 1", "0/0412", 5, "03 04 34"}, {"swap x 1", "4/0412", 5, "03 04 34 43"}, {"swap y 1 | write y 2", "5/01542", 6, "13 14 15 34 53 54"}, {"swap y 1 | write y 2", "1/01542", 6, "13 14 15 34 35 54"},
		{"swap z 1 | swap z 2", "24/01246", 7, "23 24 25 26 34 56 46 45 36"}, {"swap z 1 | swap z 2", "22/01264", 7, "23 24 25 26 34 56 64 36 54"}, {"swap x 1; read x; swap y 2", "041/04172", 8, "03 04 05 34 35 45 16 17 67"},
		// Waits and Groups.
		{"write x 1; wait; read x", "3/0312", 5, "03 04 34"}, {"write x 1 in 1; read y in 1; read x in 1", "13/0312", 6, "03 05 14 35"}, {"read x in 1; write x 2 in 1 | write x 3", "5/05412", 6, "03 04 05 34 53 54"},
	} {
		w := clerksNamed(c.text)
		if got, want := impl.PlaceWeb(w, taleNamed(c.tale)), linesNamed(c.events, c.want); !sameList(got, want) {
			t.Errorf("PlaceWeb(%q, %s) = %v, want %v", c.text, c.tale, got, want)
		}
		mustJudgeEach(t, w, eventsTold(w), taleNamed(c.tale))
	}
}

// By the program's own answers: the four webs and nothing else, between events of one place, and no line of one kind is left out for another one's.
func TestPlaceWebIsAllFourJoined(t *testing.T) {
	alone := [4]int{}
	for _, text := range []string{"swap x 1 | swap x 2 | swap x 3", "write x 1; read y; write x 2 | write y 3; read x; write y 4", "read x; read x; write x 1; write x 2 | write x 3; read z", "write z 1; read z in 1; write z 2 in 1 | wait; read z; swap z 3", "read y; read z | read x; read y"} {
		w := clerksNamed(text)
		list := eventsTold(w)
		for n := range impl.TalesCount(w) {
			tale, _ := impl.TaleAt(w, n)
			kinds := [4][]int64{impl.AtOnePlace(w), impl.FromWeb(w, tale.From), impl.RowWeb(w, tale.Rows), impl.AgainstWeb(w, tale)}
			got, all := impl.PlaceWeb(w, tale), emptyWeb(len(list))
			for i, kind := range kinds {
				all = impl.Joined(all, kind)
				others := emptyWeb(len(list))
				for j, other := range kinds {
					if i != j {
						others = impl.Joined(others, other)
					}
				}
				alone[i] += countLines(impl.Less(kind, others))
			}
			if !sameList(got, all) || !within(got, drawn(len(list), func(i, j int) bool { return j > 2 && list[i].Place == list[j].Place })) {
				t.Fatalf("PlaceWeb(%q, %v) = %v, want %v", text, tale, got, all)
			}
		}
	}
	for i, n := range alone {
		if n == 0 {
			t.Errorf("no line that is of kind %d alone", i)
		}
	}
}

// What is written, whether one waits, what is in one go: nothing of this is asked.
func TestEachAsksForPlacesAlone(t *testing.T) {
	for _, texts := range [][]string{
		{"write x 1; read x | write x 2", "write x 7; wait; read x | wait; write x 7", "write x 1 in 1; read x in 1 | write x 2 in 9", "write x 2; wait; wait; read x in 3 | write x 1; wait"},
		{"swap x 1 | swap x 2", "read x; write x 1 | read x; write x 2", "read x in 1; write x 1 in 1 | swap x 9", "wait; swap x 2 | read x; wait; write x 2"},
		{"write x 1; read y | write y 1; read x", "write x 1; wait; read y | write y 1; wait; read x", "write x 3 in 1; read y in 1 | write y 4 in 2; read x in 2"},
		{"swap z 1; read y; swap z 2", "read z; write z 5; wait; read y; swap z 6", "read z in 1; write z 5 in 1; read y in 1; read z in 1; write z 6 in 1"},
	} {
		first := clerksNamed(texts[0])
		for _, text := range texts[1:] {
			w := clerksNamed(text)
			if impl.TalesCount(w) != impl.TalesCount(first) {
				t.Fatalf("%q has %d tales", text, impl.TalesCount(w))
			}
			for n := range impl.TalesCount(w) {
				tale, _ := impl.TaleAt(first, n)
				if !sameList(impl.PlaceWeb(w, tale), impl.PlaceWeb(first, tale)) || impl.EachOk(w, tale) != impl.EachOk(first, tale) {
					t.Errorf("of %v %q has %v, %q has %v", tale, text, impl.PlaceWeb(w, tale), texts[0], impl.PlaceWeb(first, tale))
				}
			}
		}
	}
}

// mustHaveNoEach is of what is no tale.
func mustHaveNoEach(t *testing.T, w [][]impl.Deed, tale impl.Tale) {
	t.Helper()
	if web := impl.PlaceWeb(w, tale); impl.EachOk(w, tale) || len(web) != 0 {
		t.Errorf("of %v and %v: EachOk is %v, with %v", w, tale, impl.EachOk(w, tale), web)
	}
}

// The source is wrong, the rows are, both are.
func TestNoPlaceWebOfNoTale(t *testing.T) {
	for _, c := range []struct{ text, tales string }{
		{"-", "/ 0/012 /01 /0123 /021 0/0 012/"}, {"read x", "/012 1/012 3/012 00/012 0/ 0/021 0/0123 3/0312"},
		{"write x 1; read x", "/ 3/ /0312 4/0312 1/0312 33/0312 3/012 3/0321 3/3012 3/0412 3/03122 4/0412 0312/3"},
		{"write x 1; read x | write x 2", "5/0351 5/035122 5/03412 5/03312 5/30512 4/03512 1/03512 55/03512 /03512 6/03612 9/03512"},
		{"swap x 1 | swap x 2", "0/04612 444/04612 43/04612 64/0462 64/046612 64/03512 64/46012 64/04621 53/03512"},
		{"write x 1; read y | write y 1; read x", "01/03152 35/03152 10/0315 10/15203 10/03512 1/03152 105/03152"},
	} {
		w := clerksNamed(c.text)
		for word := range strings.FieldsSeq(c.tales) {
			mustHaveNoEach(t, w, taleNamed(word))
			mustJudgeEach(t, w, eventsTold(w), taleNamed(word))
		}
		for _, n := range append([]int64{-1, -2, -9, 9, 10, 11, 12, 13, 64, 1 << 32, 1<<32 + 1, 1 << 62}, far...) {
			first, _ := impl.TaleAt(w, 0)
			for i := range len(first.From) + len(first.Rows) {
				tale := copiedTale(first)
				if i < len(tale.From) {
					tale.From[i] = n
				} else {
					tale.Rows[i-len(tale.From)] = n
				}
				mustHaveNoEach(t, w, tale)
			}
		}
	}
}

// Tales whose source, whose rows, and both of which are one off: some of them are tales again.
func TestEachOfTalesOneOff(t *testing.T) {
	for _, text := range []string{"-", "read y", "write x 1; read x | write x 2", "swap x 1 | swap x 2", "write x 1; read y | write y 1; read x", "read z; read z | write z 1; write z 2"} {
		w := clerksNamed(text)
		list := eventsTold(w)
		others := []int64{-1, 12}
		for n := range int64(len(list)) + 1 {
			others = append(others, n)
		}
		for _, tale := range someTales(w) {
			sources := oneOff(tale.From, others)
			for _, from := range sources {
				mustJudgeEach(t, w, list, impl.Tale{From: from, Rows: tale.Rows})
			}
			for i, rows := range oneOff(tale.Rows, others) {
				mustJudgeEach(t, w, list, impl.Tale{From: tale.From, Rows: rows})
				mustJudgeEach(t, w, list, impl.Tale{From: sources[i%len(sources)], Rows: rows})
			}
			for _, wrong := range []impl.Tale{{From: tale.Rows, Rows: tale.From}, {From: tale.From}, {From: tale.Rows}, {From: tale.Rows, Rows: tale.Rows}, {From: tale.From, Rows: tale.From}} {
				mustHaveNoEach(t, w, wrong)
			}
		}
	}
}

func TestEachOfWhatIsNoWork(t *testing.T) {
	for _, w := range wrongWorks() {
		for _, word := range []string{"/", "/012", "0/012", "/0312", "0/0312", "00/012", "000/012", "00000/012", "0000000/012", "00000/0812", "0/04612", "111/0132", "0000/0468912", "/012345678", "012/"} {
			mustHaveNoEach(t, w, taleNamed(word))
		}
		for _, tale := range handedTales() {
			mustHaveNoEach(t, w, tale)
		}
		mustHaveEach(t, w)
	}
}

// The zero Tale is none, not even of a work without Deeds.
func TestTheZeroTaleIsNotEachOk(t *testing.T) {
	for _, text := range append(rightWorks(), "write x 1", "write y 1 | write z 2", "read y") {
		mustHaveNoEach(t, clerksNamed(text), impl.Tale{})
		mustHaveNoEach(t, clerksNamed(text), impl.Tale{From: []int64{}, Rows: []int64{}})
	}
	mustHaveNoEach(t, nil, impl.Tale{})
	mustHaveNoEach(t, [][]impl.Deed{}, impl.Tale{From: []int64{}, Rows: []int64{}})
}

// Tales of one work are handed beside another one; and the source of one with the rows of the other.
func TestEachOfAnotherWork(t *testing.T) {
	texts := []string{"-", "read x", "read y", "write x 1", "write y 1", "swap x 1", "write x 1; read x", "read x; write x 1", "write x 1 | read x", "write x 1; read y | write y 1; read x", "write y 1; read x | write x 1; read y", "swap x 1 | swap x 2", "write x 1; write x 2; read x | read x"}
	met := map[[2]bool]int{}
	for _, own := range texts {
		for _, other := range texts {
			w, list := clerksNamed(own), eventsTold(clerksNamed(own))
			first, _ := impl.TaleAt(w, 0)
			for n := range impl.TalesCount(clerksNamed(other)) {
				tale, _ := impl.TaleAt(clerksNamed(other), n)
				is := mustJudgeEach(t, w, list, tale)
				mustJudgeEach(t, w, list, impl.Tale{From: first.From, Rows: tale.Rows})
				mustJudgeEach(t, w, list, impl.Tale{From: tale.From, Rows: first.Rows})
				met[[2]bool{is, impl.EachOk(clerksNamed(other), tale)}]++
			}
		}
	}
	for _, both := range [][2]bool{{false, false}, {false, true}, {true, false}, {true, true}} {
		if met[both] == 0 {
			t.Errorf("no tale that is EachOk of its own and of the other work: %v", both)
		}
	}
	// By hand: the place is another one, the number is, and there are as many of both.
	for _, c := range []struct{ text, tale string }{
		{"read y", "0/012"}, {"read x", "1/012"}, {"write y 1", "/0312"}, {"write x 1", "/0132"}, {"write x 1; read x", "4/0412"}, {"read x; write x 1", "3/0312"}, {"swap x 1", "3/0312"},
		{"write y 1; read x | write x 1; read y", "13/03152"}, {"write x 1; write x 2", "0/0312"}, {"-", "0/012"}, {"read x", "/012"}, {"write x 1 | read x", "4/0412"},
	} {
		mustHaveNoEach(t, clerksNamed(c.text), taleNamed(c.tale))
	}
}

func TestEachOfVeryLongLists(t *testing.T) {
	const long = 1 << 20
	clerks, zeros := make([][]impl.Deed, long), make([]int64, long)
	for _, w := range [][][]impl.Deed{clerks, clerks[:4]} {
		mustHaveNoEach(t, w, impl.Tale{Rows: []int64{0, 1, 2}})
		mustHaveNoEach(t, w, impl.Tale{From: zeros, Rows: zeros})
	}
	mustHaveEach(t, clerks[:3])
	for _, d := range []impl.Deed{{}, {Kind: 1}, {Kind: 4}, {Kind: 3, Value: 1}} {
		list := make([]impl.Deed, long)
		for i := range list {
			list[i] = d
		}
		for _, w := range [][][]impl.Deed{workOf(list), workOf(nil, list, nil), workOf(list, list, list)} {
			mustHaveNoEach(t, w, impl.Tale{Rows: []int64{0, 1, 2}})
			mustHaveNoEach(t, w, impl.Tale{From: zeros, Rows: zeros})
		}
	}
	for _, text := range []string{"-", "read x", "write x 1; read x | swap x 2", "write y 1; write y 2; write y 3; write y 4; write y 5 | write y 6"} {
		w := clerksNamed(text)
		first, _ := impl.TaleAt(w, 0)
		for _, n := range []int{1, 7, 9, 12, 13, 64, 257, long} {
			more := impl.Tale{From: append(copied(first.From), zeros[:n]...), Rows: append(copied(first.Rows), zeros[:n]...)}
			for _, tale := range []impl.Tale{more, {From: first.From, Rows: more.Rows}, {From: more.From, Rows: first.Rows}} {
				mustHaveNoEach(t, w, tale)
			}
		}
	}
}

func askedForEach(t *testing.T) asking {
	return func(w [][]impl.Deed, list []impl.Event, tale impl.Tale) {
		mustJudgeEach(t, w, list, tale)
		spoil(impl.PlaceWeb(w, tale))
	}
}

func TestEachLeavesItsArgumentsAlone(t *testing.T) { mustLeaveTalesAlone(t, askedForEach(t)) }

func TestEachOfListsInOneMemory(t *testing.T) { mustTakeOneMemory(t, askedForEach(t)) }

func TestPlaceWebsAreNewMemory(t *testing.T) {
	for _, w := range taleWorks() {
		l, list := laid(w), eventsTold(w)
		before := l.copied()
		count := max(talesCounted(list), 0)
		// All are asked for ahead of the first one that is spoilt, so that two that lie in one memory are found.
		tales, ones, others := []impl.Tale{}, [][]int64{}, [][]int64{}
		for n := range count {
			tale, _ := impl.TaleAt(l.given, n)
			tales = append(tales, tale)
			ones, others = append(ones, impl.PlaceWeb(l.given, tale)), append(others, impl.PlaceWeb(l.given, tale))
		}
		for n := range count {
			tale := taleTold(list, n)
			want := placeWebTold(w, list, tale)
			if !sameList(ones[n], want) || !sameList(others[n], want) || !sameTale(tales[n], tale) {
				t.Fatalf("of %v two answers share memory: %v, %v, %v", w, ones[n], others[n], tales[n])
			}
			spoil(ones[n])
			if !sameList(others[n], want) || !sameTale(tales[n], tale) {
				t.Fatalf("PlaceWeb(%v, %v) shares memory", w, tale)
			}
			// What was handed in is spoilt, and the answer stays.
			spoil(tales[n].From)
			spoil(tales[n].Rows)
			if !sameList(others[n], want) {
				t.Fatalf("PlaceWeb(%v, %v) lies in the tale's memory", w, tale)
			}
			spoil(others[n])
		}
		spoil(impl.PlaceWeb(l.given, impl.Tale{}))
		mustHaveEach(t, w)
		if !l.isAs(before) {
			t.Errorf("an answer of %v shares memory with it", w)
		}
	}
}

// A tale may be changed, and handed in again: it is asked by what it is now.
func TestEachOfATaleThatIsChanged(t *testing.T) {
	w := clerksNamed("write x 1; write x 2; read x")
	tale, _ := impl.TaleAt(w, 0)
	for _, c := range []struct {
		tale string
		ok   bool
	}{{"0/03412", false}, {"4/03412", true}, {"4/04312", false}, {"3/03412", false}, {"4/03412", true}, {"5/03412", false}, {"4/03312", false}, {"4/03412", true}} {
		now := taleNamed(c.tale)
		copy(tale.From, now.From)
		copy(tale.Rows, now.Rows)
		if got := impl.EachOk(w, tale); got != c.ok {
			t.Errorf("EachOk of %s is %v", c.tale, got)
		}
		mustJudgeEach(t, w, eventsTold(w), tale)
	}
}

// One list may be several clerks': each of them has reads and writes of its own.
func TestEachOfOneListForAllClerks(t *testing.T) {
	for _, list := range [][]impl.Deed{{}, clerkOf("read x"), clerkOf("write x 1"), clerkOf("write x 1", "read x"), clerkOf("read x", "read x"), clerkOf("swap x 1"), clerkOf("read x in 1")} {
		mustHaveEach(t, workOf(list, list))
		mustHaveEach(t, workOf(list, list, list))
	}
}
