package tests

import (
	"slices"
	"strings"
	"testing"

	"loop.example/g00411/impl"
)

// strictly is a work as the test reads it: what hangs on the work alone is told once for all its tales.
type strictly struct {
	slowly
	behind []int64
}

func strictlyOf(w [][]impl.Deed) strictly {
	return strictly{slowly: slowlyOf(w), behind: linesTold(w).behind}
}

// strictWebTold has a line where one of the four kinds has it.
func (s strictly) strictWebTold(tale impl.Tale) []int64 {
	if !isTale(s.list, tale) {
		return nil
	}
	kinds := []grid{gridOf(s.behind), gridOf(fromWebTold(s.list, tale.From)), gridOf(rowWebTold(s.list, tale.Rows)), gridOf(againstTold(s.list, tale))}
	return drawn(len(s.list), func(i, j int) bool {
		return slices.ContainsFunc(kinds, func(kind grid) bool { return kind[i][j] })
	})
}

// canGoOnAtOnce is an office in which nobody has notes: whatever is done reads from the board and comes to it.
func (o office) canGoOnAtOnce(d desk) bool {
	if o.met[d.hour] {
		return false
	}
	o.met[d.hour] = true
	done := true
	for c, deeds := range o.w {
		if d.next[c] == len(deeds) {
			continue
		}
		done = false
		if then, is := o.doesAtOnce(d, c); is && o.canGoOnAtOnce(then) {
			return true
		}
	}
	return done
}

// canBeDoneAtOnce asks whether the clerks, without notes, can do just what is told.
func (s strictly) canBeDoneAtOnce(tale impl.Tale) bool {
	return isTale(s.list, tale) && officeOf(s.slowly, tale).canGoOnAtOnce(desk{seats: [3]int{1, 1, 1}})
}

// mustJudgeStrict holds what chapter 13 tells of a tale, or of what is none, against what the test tells by lines and without; it answers whether it is StrictOk.
func mustJudgeStrict(t *testing.T, s strictly, tale impl.Tale) bool {
	t.Helper()
	want := s.strictWebTold(tale)
	if got := impl.StrictWeb(s.w, tale); !sameList(got, want) {
		t.Fatalf("StrictWeb(%v, %v) = %v, want %v", s.w, tale, got, want)
	}
	is := isEach(s.list, tale) && !runsBack(liftedBySearch(want, s.classes))
	if got := impl.StrictOk(s.w, tale); got != is || got != s.canBeDoneAtOnce(tale) {
		t.Fatalf("StrictOk(%v, %v) = %v; by lines %v, without %v", s.w, tale, got, is, s.canBeDoneAtOnce(tale))
	}
	return is
}

// strict counts the tales of works: how many there were, how many are EachOk, SlowOk and StrictOk; of those that are EachOk and not StrictOk how many go round by Classes alone.
type strict struct{ tales, each, slow, ok, atOnce int }

func (s *strict) add(more strict) {
	s.tales, s.each, s.slow, s.ok, s.atOnce = s.tales+more.tales, s.each+more.each, s.slow+more.slow, s.ok+more.ok, s.atOnce+more.atOnce
}

// mustBeSlowToo is the first half of promise 13, by the program's own answers; it answers what is to be counted.
func mustBeSlowToo(t *testing.T, w [][]impl.Deed, tale impl.Tale) strict {
	t.Helper()
	met := strict{tales: 1}
	if impl.EachOk(w, tale) {
		met.each = 1
		web := impl.StrictWeb(w, tale)
		if impl.Round(impl.Lifted(web, impl.ClassesOf(impl.EventsOf(w)))) && !impl.Round(web) {
			met.atOnce = 1
		}
	}
	if impl.SlowOk(w, tale) {
		met.slow = 1
	}
	if impl.StrictOk(w, tale) {
		met.ok = 1
	}
	if met.ok > met.slow {
		t.Fatalf("StrictOk(%v, %v), and not SlowOk", w, tale)
	}
	return met
}

// mustHaveStrict goes through all tales that TaleAt answers, and some that are none.
func mustHaveStrict(t *testing.T, w [][]impl.Deed) strict {
	t.Helper()
	s, met := strictlyOf(w), strict{}
	for n := range max(impl.TalesCount(w), 0) {
		tale, _ := impl.TaleAt(w, n)
		mustJudgeStrict(t, s, tale)
		met.add(mustBeSlowToo(t, w, tale))
	}
	for _, tale := range []impl.Tale{{}, {From: []int64{0}}, {Rows: []int64{0, 1, 2}}, {From: []int64{0}, Rows: []int64{0, 1, 2}}, {From: []int64{0, 1, 2}}} {
		mustJudgeStrict(t, s, tale)
	}
	if isWork(w) && met.ok == 0 {
		t.Fatalf("%v has no tale that is StrictOk", w)
	}
	return met
}

// mustBeAlike is the second half of promise 13: no tale of the work is SlowOk alone.
func mustBeAlike(t *testing.T, w [][]impl.Deed) strict {
	t.Helper()
	met := strict{}
	for n := range max(impl.TalesCount(w), 0) {
		tale, _ := impl.TaleAt(w, n)
		one := mustBeSlowToo(t, w, tale)
		if one.slow != one.ok {
			t.Fatalf("SlowOk(%v, %v), and not StrictOk", w, tale)
		}
		met.add(one)
	}
	return met
}

// mustHaveMetStrict wants tales of each sort: the promise would say nothing of works that have none.
func mustHaveMetStrict(t *testing.T, met strict) {
	t.Helper()
	if met.ok == 0 || met.ok == met.slow || met.slow == met.each || met.each == met.tales || met.atOnce == 0 {
		t.Errorf("met: %v", met)
	}
}

// twoSorts are clerks of which each two may see each other's half of the work, or go round.
func twoSorts() (plain [][]impl.Deed, all [][]impl.Deed) {
	plain = [][]impl.Deed{clerkOf("read x"), clerkOf("swap x 2"), clerkOf("write x 1", "read y"), clerkOf("write y 2", "read x"), clerkOf("write x 1", "wait", "read y"), clerkOf("write y 2", "wait", "read x"), clerkOf("write x 1", "write y 2"), clerkOf("read y", "read x"), clerkOf("read x", "write y 2"), clerkOf("write x 1", "read x", "read y"), clerkOf("write y 2", "read y", "read x"), clerkOf("write y 2", "read x in 2"), clerkOf("write y 3", "write x 4")}
	return plain, append(slices.Clone(plain), clerkOf("swap x 1", "read y"), clerkOf("write x 1 in 1", "read y in 1"), clerkOf("write x 1 in 1", "write y 2 in 1"), clerkOf("read x in 1", "write y 2 in 1"), clerkOf("read x in 1", "read y in 1"))
}

// Promise 13: one clerk. Whatever it has in its notes, it sees what it would see without; the other clerks have nothing to do.
func TestStrictOfOneClerk(t *testing.T) {
	met := strict{}
	for _, one := range clerksOf(clerkOf("read x", "write x 1", "read y", "swap y 2", "wait"), 3) {
		mustHaveStrict(t, workOf(one))
		met.add(mustBeAlike(t, workOf(one)))
	}
	for _, one := range clerksOf(clerkOf("read x in 1", "write x 1 in 1", "swap x 3", "read x"), 3) {
		met.add(mustBeAlike(t, workOf(one)))
		met.add(mustBeAlike(t, workOf(nil, one, nil)))
	}
	for _, text := range []string{"write x 1; read x; write x 2; read x; write y 3 | -", "write x 1; write y 2; read y; read x; wait | wait; wait", "- | write x 1; read x in 1; write x 2 in 1; swap x 3", "- | - | write y 1; swap y 2; read y; write y 3", "write z 1 in 1; read z in 1; write z 2 in 2; read z in 2; read z"} {
		mustHaveStrict(t, clerksNamed(text))
		met.add(mustBeAlike(t, clerksNamed(text)))
	}
	if met.ok == 0 || met.each == met.tales {
		t.Errorf("met: %v", met)
	}
}

// Promise 13: two clerks.
func TestStrictOfTwoClerks(t *testing.T) {
	met := strict{}
	plain, all := twoSorts()
	for _, one := range all {
		for _, two := range plain {
			met.add(mustHaveStrict(t, workOf(one, two)))
		}
	}
	mustHaveMetStrict(t, met)
}

// Promise 13: three clerks.
func TestStrictOfThreeClerks(t *testing.T) {
	met := strict{}
	some := [][]impl.Deed{nil, clerkOf("read x"), clerkOf("swap x 2"), clerkOf("write x 1", "read y"), clerkOf("write y 2", "wait", "read x"), clerkOf("read y", "read x")}
	for _, one := range append(slices.Clone(some), clerkOf("write x 1 in 1", "read y in 1"), clerkOf("write x 5 in 1", "write y 6 in 1")) {
		for _, two := range append(slices.Clone(some), clerkOf("write y 1", "write x 2")) {
			for _, three := range some {
				met.add(mustHaveStrict(t, workOf(one, two, three)))
			}
		}
	}
	mustHaveMetStrict(t, met)
}

// Promise 13: more Deeds of each kind, and mixes with clerks that are not right.
func TestStrictOfManyWorks(t *testing.T) {
	met := strict{}
	for i, one := range mixedClerks() {
		for j, two := range mixedClerks() {
			if (i+j)%3 != 0 {
				continue
			}
			met.add(mustHaveStrict(t, workOf(one, two)))
			if j%3 == 0 {
				mustHaveStrict(t, workOf(two, nil, one))
			}
		}
	}
	for d := range shownDeeds {
		met.add(mustHaveStrict(t, workOf(clerkOf("write x 1", "read y"), append(clerkOf("write y 1"), d))))
	}
	for _, text := range rightWorks() {
		met.add(mustHaveStrict(t, clerksNamed(text)))
	}
	mustHaveMetStrict(t, met)
}

// Promise 13: what is Waited. Without the waits some of these works have tales that are SlowOk alone.
func TestStrictOfWhatIsWaited(t *testing.T) {
	met, before := strict{}, strict{}
	_, all := twoSorts()
	for i, one := range all {
		for _, two := range all[i:] {
			if w := workOf(one, two); isWork(w) {
				met.add(mustBeAlike(t, impl.Waited(w)))
				before.add(mustHaveStrict(t, w))
			}
		}
	}
	for _, text := range append(rightWorks(), "write x 1; read y | write y 1; read z | write z 1; read x", "write x 1; write y 1 | read y; read x | write x 2; read y", "write x 1; read x; read y | write y 1; read y; read x", "write x 1 in 1; read y in 1 | write y 1; wait; wait; read x | read x in 2") {
		if waited := impl.Waited(clerksNamed(text)); len(waited) > 0 {
			mustHaveStrict(t, waited)
			met.add(mustBeAlike(t, waited))
		}
	}
	for _, met := range []strict{met, before} {
		if met.ok == 0 || met.slow == met.each || met.each == met.tales {
			t.Errorf("met: %v", met)
		}
	}
	if before.ok == before.slow {
		t.Errorf("met, without the waits: %v", before)
	}
}

// Promise 13: reads and swaps alone, of one, two and three clerks; some reads are in one go.
func TestStrictOfReadsAndSwaps(t *testing.T) {
	met := strict{}
	some := clerksOf(clerkOf("read x", "swap x 1", "swap y 2"), 2)
	for i, one := range some {
		for _, two := range some[i:] {
			met.add(mustBeAlike(t, workOf(one, two)))
		}
	}
	few := clerksOf(clerkOf("read y", "swap y 1"), 1)
	for _, one := range append(few, clerkOf("read y in 1", "read x in 1"), clerkOf("read x", "swap y 2")) {
		for _, two := range append(few, clerkOf("swap x 1", "read y")) {
			for _, three := range few {
				mustHaveStrict(t, workOf(one, two, three))
				met.add(mustBeAlike(t, workOf(one, two, three)))
			}
		}
	}
	for _, text := range []string{"swap x 1; read y | swap y 1; read x", "swap x 1; read x; read x | swap x 2", "read x in 1; read y in 1 | swap x 1; swap y 2", "read x; read y | swap x 1 | swap y 1", "read x in 1; read y in 1; read x in 1 | swap x 1 | read x in 2", "read x; read y; read z; read x; read y | read z"} {
		mustHaveStrict(t, clerksNamed(text))
		met.add(mustBeAlike(t, clerksNamed(text)))
	}
	if met.ok == 0 || met.slow == met.each || met.each == met.tales || met.atOnce == 0 {
		t.Errorf("met: %v", met)
	}
}

// As if nobody had notes: a wait changes nothing, wherever it stands.
func TestAWaitChangesNothingStrictly(t *testing.T) {
	for _, c := range []struct{ one, other string }{
		{"write x 1; read y | write y 1; read x", "write x 1; wait; read y | write y 1; wait; read x"}, {"write x 1; read y | write y 1; read x", "wait; write x 1; read y; wait | wait; wait; write y 1; read x"}, {"write x 1; read x; read y | write y 1; read y; read x", "write x 1; wait; read x; wait; read y | write y 1; wait; read y; read x"},
		{"write x 1; write y 1 | read y; read x", "write x 1; wait; write y 1 | read y; wait; read x"}, {"swap x 1; read y | write y 1; swap x 2", "swap x 1; wait; read y | write y 1; wait; swap x 2"}, {"write x 1; read y in 1 | write y 1 in 2; read x", "write x 1; wait; read y in 1 | write y 1 in 2; wait; read x"}, {"-", "wait; wait | wait"},
	} {
		one, other := clerksNamed(c.one), clerksNamed(c.other)
		for n := range impl.TalesCount(one) {
			tale, _ := impl.TaleAt(one, n)
			if got := impl.StrictOk(other, tale); got != impl.StrictOk(one, tale) || !sameList(impl.StrictWeb(one, tale), impl.StrictWeb(other, tale)) {
				t.Errorf("StrictOk(%q, %v) = %v; not so of %q", c.other, tale, got, c.one)
			}
		}
		if impl.TalesCount(one) != impl.TalesCount(other) {
			t.Errorf("%q and %q have not as many tales", c.one, c.other)
		}
	}
}

// Of a work without Groups those are StrictOk that are SlowOk where all is waited for.
func TestStrictOkIsSlowOkWhereAllIsWaitedFor(t *testing.T) {
	differ := 0
	plain, _ := twoSorts()
	for _, one := range plain {
		for _, two := range plain {
			w := workOf(one, two)
			waited := impl.Waited(w)
			for n := range impl.TalesCount(w) {
				tale, _ := impl.TaleAt(w, n)
				if impl.StrictOk(w, tale) != impl.SlowOk(waited, tale) {
					t.Fatalf("StrictOk(%v, %v) is %v", w, tale, impl.StrictOk(w, tale))
				}
				if impl.SlowOk(w, tale) != impl.SlowOk(waited, tale) {
					differ++
				}
			}
		}
	}
	if differ == 0 {
		t.Error("the waits change nothing")
	}
}

func TestStrictAtEachLimit(t *testing.T) {
	for i, one := range evenClerks(6) {
		for _, two := range evenClerks(1) {
			if i%2 == 0 || len(one) == 5 {
				mustHaveStrict(t, workOf(one, two))
			}
		}
	}
	for reads := range 7 {
		all := append(times(6-reads, "write y 7"), times(reads, "read y")...)
		mustHaveStrict(t, workOf(clerkOf(all[:3]...), clerkOf(all[3:]...)))
	}
}

// Six events in which each kind of line counts, of two and of three clerks.
func TestStrictOfSixEvents(t *testing.T) {
	for _, text := range []string{
		"write x 1; read x; read y | write y 1; read y; read x", "write x 1; read z; read y | write y 1; read z; read x", "write x 1; read y | write y 1; read z | write z 1; read x", "write x 1; write y 1 | read y; write z 1 | read z; read x", "write x 1; write y 2 | write y 3; write z 4 | write z 5; write x 6",
		"read x; write y 1 | read y; write z 1 | read z; write x 1", "write x 1 | read x; read y | write y 1; wait; read x", "write x 1 in 1; write y 1 in 1; read x | write x 2 in 2; write y 2 in 2; read y", "read x in 1; read y in 1; write x 1 in 1 | write y 2; swap x 3", "write x 1; read x in 1; write y 2 in 1; read y | swap y 3", "read x in 1; write x 2 in 1; read x in 1 | read x in 2; write x 3 in 2; read x in 2",
	} {
		mustHaveStrict(t, clerksNamed(text))
	}
}

// How many tales are StrictOk can be told by counting the ways to do it.
func TestHowManyAreStrictOk(t *testing.T) {
	for _, c := range []struct {
		text            string
		ok, slow, tales int
	}{
		{"-", 1, 1, 1}, {"wait; wait | - | wait", 1, 1, 1}, {"read x; read x; read x; read x; read x | read x", 1, 1, 1},
		// Writes at one place: the ways to mix the clerks; of Groups the ways to order them.
		{"write x 1; write x 2; write x 3; write x 4; write x 5", 1, 1, 120}, {"write z 1; write z 2 | write z 3; write z 4", 6, 6, 24}, {"write z 1 | write z 2; write z 3 | write z 4", 12, 12, 24}, {"write x 1 in 1; write x 2 in 1 | write x 3 in 2; write x 4 in 2", 2, 2, 24}, {"write x 1 in 1; write x 2 in 1 | write x 3; write x 4", 3, 3, 24},
		{"write x 1; write y 2; write z 3 | write x 4; write y 5; write z 6", 8, 8, 8}, {"write x 1 in 1; write y 2 in 1; write z 3 in 1 | write x 4 in 2; write y 5 in 2; write z 6 in 2", 2, 2, 8},
		// Reads beside writes; in one go they see one thing.
		{"read x; read x; read x | write x 8", 4, 4, 8}, {"read x in 1; read x in 1; read x in 1 | write x 8", 2, 2, 8}, {"write x 1; write x 2; write x 3; write x 4 | read x", 5, 5, 120},
		// Swaps: each reads from the one just ahead of it, so that the orders count alone.
		{"swap x 1; swap x 2; swap x 3", 1, 1, 384}, {"swap x 1; swap x 2 | swap x 3", 3, 3, 384}, {"swap x 1 | swap x 2 | swap x 3", 6, 6, 384}, {"swap x 1; swap y 2 | swap z 3", 1, 1, 8},
		// Each writes, and then reads what another one writes: all see, or not, in each way but that nobody sees anything.
		{"write x 1; read y | write y 1; read x", 3, 4, 4}, {"write x 1; wait; read y | write y 1; wait; read x", 3, 3, 4}, {"write x 1; read y | write y 1; read z | write z 1; read x", 7, 8, 8}, {"write x 1; wait; read y | write y 1; wait; read z | write z 1; read x", 7, 8, 8}, {"write x 1; wait; read y | write y 1; wait; read z | write z 1; wait; read x", 7, 7, 8},
		// In one go one is ahead of the other.
		{"write x 1 in 1; read y in 1 | write y 1 in 2; read x in 2", 2, 2, 4},
	} {
		if met := mustHaveStrict(t, clerksNamed(c.text)); met.ok != c.ok || met.slow != c.slow || met.tales != c.tales {
			t.Errorf("of %q: %v, want %d and %d of %d", c.text, met, c.ok, c.slow, c.tales)
		}
	}
}

// All tales that are StrictOk, in the order of TaleAt; the others of these works are not.
func TestStrictOkByHand(t *testing.T) {
	for text, words := range map[string]string{
		"-": "/012", "wait | -": "/012", "read x": "0/012", "write x 1": "/0312", "write x 1; read x": "3/0312", "read x; write x 1": "0/0412",
		// Each writes and reads the other one's place: one of them sees it, whether they wait or not.
		"write x 1; read y | write y 1; read x": "13/03152 50/03152 53/03152", "write x 1; wait; read y | write y 1; read x": "13/03152 50/03152 53/03152", "write x 1; read y | write y 1; wait; read x": "13/03152 50/03152 53/03152", "write x 1; wait; read y | write y 1; wait; read x": "13/03152 50/03152 53/03152",
		"wait; write x 1; read y; wait | wait; write y 1; read x; wait": "13/03152 50/03152 53/03152", "swap x 1; read y | swap y 1; read x": "0114/04172 0710/04172 0714/04172",
		"write x 1 in 1; read y in 1 | write y 1 in 2; read x in 2": "13/03152 50/03152", "write x 1 in 1; read y | write y 1; read x": "13/03152 50/03152 53/03152", "write x 1 in 1; read y | write y 1; read x in 2": "13/03152 50/03152 53/03152",
		"write x 1; read z; read y | write y 1; read z; read x": "2123/03162 2620/03162 2623/03162",
		// Its own write is seen when others see it.
		"write x 1; read x; read y | write y 1; read y; read x": "3163/03162 3660/03162 3663/03162", "write x 1; read x; read y | write y 1; wait; read x": "313/03162 360/03162 363/03162",
		"write x 1; read x | write x 2": "3/03512 3/05312 5/03512", "write x 1; read x | write x 2; read x": "33/05312 35/03512 35/05312 55/03512",
		// All in order, whoever looks.
		"write x 1; write y 1 | read y; read x": "10/03142 13/03142 43/03142", "read x; write y 1 | read y; write x 1": "01/06142 04/06142 61/06142", "write x 1; write y 2 | write y 1; write x 2": "/0361452 /0361542 /0631542",
		"write x 1; write y 1 | read y; write x 2": "1/036142 1/063142 4/036142", "write x 1; write y 1 | write y 2; read x": "0/031542 3/031452 3/031542", "write x 1; write y 1 | write y 2; wait; read x": "0/031542 3/031452 3/031542",
		"write x 1 | read x; write y 1 | read y; read x": "010/03152 013/03152 050/03152 053/03152 310/03152 313/03152 353/03152",
		// In one go: nobody sees half of it, nothing comes between.
		"swap x 1 | swap x 2": "04/04612 60/06412", "swap x 1 | write x 2": "0/04512 5/05412", "read y in 1; read y in 1 | write y 1": "11/0152 55/0152", "read y; read y | write y 1": "11/0152 15/0152 55/0152", "write x 1 in 1; write x 2 in 1 | read x": "0/03412 4/03412",
		"write x 1 in 1; write y 1 in 1 | read x; read y": "01/03142 04/03142 34/03142", "write x 1 in 1; write y 1 in 1 | read x in 2; read y in 2": "01/03142 34/03142", "write x 1; write y 1 | read x in 2; read y in 2": "01/03142 31/03142 34/03142",
	} {
		w, ok := clerksNamed(text), []string{}
		for n := range impl.TalesCount(w) {
			if tale, _ := impl.TaleAt(w, n); impl.StrictOk(w, tale) {
				ok = append(ok, wordOfTale(tale))
			}
		}
		if got := strings.Join(ok, " "); got != words {
			t.Errorf("StrictOk of %q are %s, want %s", text, got, words)
		}
		mustHaveStrict(t, w)
	}
}

// strictCase is a tale of a work that is EachOk, or not, and lines that lead round, or not.
type strictCase struct{ text, tale, round string }

func (c strictCase) webs() (strict []int64, lifted []int64) {
	w := clerksNamed(c.text)
	strict = impl.StrictWeb(w, taleNamed(c.tale))
	return strict, impl.Lifted(strict, impl.ClassesOf(impl.EventsOf(w)))
}

// mustBe wants of the case whether it is a tale whose places do not run back, whether it is SlowOk, and that it is not StrictOk.
func (c strictCase) mustBe(t *testing.T, each bool, slow bool) {
	t.Helper()
	w, tale := clerksNamed(c.text), taleNamed(c.tale)
	if !impl.TaleOk(w, tale) || impl.EachOk(w, tale) != each || impl.SlowOk(w, tale) != slow || impl.StrictOk(w, tale) {
		t.Errorf("of %q and %s: TaleOk %v, EachOk %v, SlowOk %v, StrictOk %v", c.text, c.tale, impl.TaleOk(w, tale), impl.EachOk(w, tale), impl.SlowOk(w, tale), impl.StrictOk(w, tale))
	}
	mustJudgeStrict(t, strictlyOf(w), tale)
}

// mustGoRound wants the lines of the case in its web.
func (c strictCase) mustGoRound(t *testing.T) {
	t.Helper()
	web, _ := c.webs()
	if round := linesNamed(len(web), c.round); !impl.Round(round) || !within(round, web) {
		t.Errorf("StrictWeb(%q, %s) = %v, without some of %s", c.text, c.tale, web, c.round)
	}
}

// Two clerks who write and then read the other's place can't both see nothing, with and without a wait between.
func TestBothSeeNothing(t *testing.T) {
	for text, slow := range map[string]bool{
		"write x 1; read y | write y 1; read x": true, "write x 1; wait; read y | write y 1; read x": true, "write x 1; read y | write y 1; wait; read x": true, "write x 1; wait; read y | write y 1; wait; read x": false, "write x 1 in 1; read y in 1 | write y 1; read x": true, "write x 1 in 1; read y in 1 | write y 1 in 2; read x in 2": false,
	} {
		c := strictCase{text, "10/03152", "34 45 56 63"}
		c.mustBe(t, true, slow)
		c.mustGoRound(t)
	}
	for _, c := range []strictCase{{"write z 1; read y | - | write y 1; read z", "12/01523", "34 45 56 63"}, {"- | write x 1; read z | write z 1; read x", "20/03125", "34 45 56 63"}, {"write x 1; read y | write y 1; read z | write z 1; read x", "120/031527", "34 45 56 67 78 83"}, {"write x 7; wait; wait; read y | write y 9; read z; read x", "120/03152", "34 45 57 73"}} {
		c.mustBe(t, true, true)
		c.mustGoRound(t)
	}
}

// These are SlowOk, as a clerk sees its own note; without notes others would see it, too.
func TestAClerkSeesItsOwnWithOthersStrictly(t *testing.T) {
	for _, c := range []strictCase{
		{"write x 1; read x; read y | write y 1; read y; read x", "3160/03162", "34 45 56 67 78 83"}, {"write x 1; read x; read y | write y 1; wait; read x", "310/03162", "34 45 56 67 73"}, {"write x 1; read x; read y | - | swap y 1; read x", "3110/03172", "34 45 57 78 83"},
		{"write x 1; read x; read y | write y 1; write x 2", "31/073162", "34 45 56 67 73"}, {"- | write z 1; read z; read y | write y 1; write z 2", "31/016273", "34 45 56 67 73"}, {"write x 1; write x 2; read x; read y | write y 1; wait; read x", "410/034172", "45 56 67 78 84"},
	} {
		c.mustBe(t, true, true)
		c.mustGoRound(t)
	}
	// And where the other one can see it, it is StrictOk.
	for _, c := range []strictCase{{"write x 1; read x; read y | write y 1; read y; read x", "3163/03162", ""}, {"write x 1; read x | read x", "33/0312", ""}, {"write x 1; read x | read x", "30/0312", ""}, {"write x 1; read x | write x 2", "3/05312", ""}} {
		w, tale := clerksNamed(c.text), taleNamed(c.tale)
		if web, _ := c.webs(); !impl.StrictOk(w, tale) || impl.Round(web) {
			t.Errorf("StrictOk(%q, %s) = %v, with %v", c.text, c.tale, impl.StrictOk(w, tale), web)
		}
		mustJudgeStrict(t, strictlyOf(w), tale)
	}
}

// Each place by itself does not run back; over two places or three it goes round, with notes or without.
func TestTalesThatGoRoundStrictly(t *testing.T) {
	for _, c := range []strictCase{
		// The later write is seen, the earlier one is not.
		{"write x 1; write y 1 | read y; read x", "40/03142", "34 45 56 63"}, {"write x 1 | read x; write y 1 | read y; read x", "350/03152", "34 45 56 67 73"}, {"swap x 1; swap y 1 | read y; read x", "0160/04162", "46 67 78 84"},
		// Each reads what the other one writes later.
		{"read x; write y 1 | read y; write x 1", "64/06142", "34 45 56 63"}, {"read x; write y 1 | read y; write z 1 | read z; write x 1", "846/081426", "34 45 56 67 78 83"},
		// The last write at each place is the earlier one of its clerk.
		{"write x 1; write y 2 | write y 1; write x 2", "/0631452", "34 45 56 63"}, {"write x 1; write y 1 | write y 2; wait; read x", "0/031452", "34 45 56 63"}, {"write x 1; write y 1 | read y; write x 2", "4/063142", "34 45 56 63"},
		{"swap x 1; read y | swap y 1; read x", "0110/04172", "45 57 78 84"},
	} {
		c.mustBe(t, true, false)
		c.mustGoRound(t)
	}
	// Without notes alone.
	for _, c := range []strictCase{{"write x 1; write y 1 | write y 2; read x", "0/031452", "34 45 56 63"}, {"write x 1; read y | write y 1; write x 2", "1/063152", "34 45 56 63"}, {"write x 1; read z; read y | write y 1; read z; read x", "2120/03162", "35 56 68 83"}} {
		c.mustBe(t, true, true)
		c.mustGoRound(t)
	}
}

// StrictWeb does not go round; that the events of one swap, or of one Group, are one class makes it.
func TestTalesThatGoRoundStrictlyByClassAlone(t *testing.T) {
	for _, c := range []strictCase{
		// Another one's write comes between the read and the write of a swap.
		{"swap x 1 | write x 2", "0/05412", "35 54"}, {"swap x 1 | swap x 2", "00/04612", "36 54"}, {"swap x 1 | swap x 2", "00/06412", "36 54"}, {"swap z 1 | swap z 2 | swap z 3", "222/012468", "36 54"}, {"swap y 1 | - | write y 2; write y 3", "1/015642", "35 64"},
		// Between the read and the write of a Group; between its reads; between its writes.
		{"read y in 1; write y 1 in 1 | write y 2", "1/01542", "35 54"}, {"read y in 1; read y in 1 | write y 1", "15/0152", "35 54"}, {"write x 1 in 1; write x 2 in 1 | read x", "3/03412", "35 54"}, {"write x 1 in 1; write x 2 in 1 | write x 3", "/035412", "35 54"},
		// At two places: half of a Group is seen, or sees.
		{"write x 1 in 1; write y 1 in 1 | read x; read y", "31/03142", "35 64"}, {"write x 1 in 1; write y 1 in 1 | read x in 2; read y in 2", "04/03142", "53 46"}, {"write x 1 in 1; write y 1 in 1 | read x in 2; read y in 2", "31/03142", "35 64"}, {"read x in 1; read y in 1 | write x 1; write y 1", "06/05162", "35 64"},
		{"write x 1 in 1; read y in 1 | write y 1 in 2; read x in 2", "53/03152", "54 36"}, {"write x 1 in 1; write y 1 in 1 | read x; write z 1 | read z; read y", "361/031426", "35 84"},
	} {
		c.mustBe(t, true, false)
		web, lifted := c.webs()
		if impl.Round(web) || !impl.Round(lifted) || !within(linesNamed(len(web), c.round), web) {
			t.Errorf("StrictWeb(%q, %s) = %v, lifted %v, want %s", c.text, c.tale, web, lifted, c.round)
		}
	}
	// With notes it does not go round even so: the plain read may be ahead of the plain write on the board.
	for _, c := range []strictCase{{"write x 1; read y | read x in 1; write y 1 in 1", "10/03162", "53 34 46"}, {"read z in 1; write y 1 in 1 | - | write z 1; read x; read y", "201/01425", "35 57 74"}} {
		c.mustBe(t, true, true)
		web, lifted := c.webs()
		if impl.Round(web) || !impl.Round(lifted) || !within(linesNamed(len(web), c.round), web) {
			t.Errorf("StrictWeb(%q, %s) = %v, lifted %v, want %s", c.text, c.tale, web, lifted, c.round)
		}
	}
}

// StrictWeb, lifted, does not go round; but one place by itself runs back within a class, whose lines are lifted away.
func TestTalesThatRunBackAreNotStrictOk(t *testing.T) {
	for _, c := range []strictCase{
		{"swap x 1", "4/0412", "34 43"}, {"write x 1 in 1; read x in 1", "0/0312", "34 43"}, {"read x in 1; write x 1 in 1", "4/0412", "34 43"}, {"write x 1 in 1; write x 2 in 1", "/04312", "34 43"}, {"write y 1 in 2; write y 2 in 2; read y in 2", "3/01342", "45 54"}, {"- | read x in 1; write x 1 in 1; read x in 1", "00/0412", "45 54"}, {"write y 3 | swap z 1; read y", "53/01325", "45 54"},
	} {
		c.mustBe(t, false, false)
		c.mustGoRound(t)
		if web, lifted := c.webs(); impl.Round(lifted) {
			t.Errorf("StrictWeb(%q, %s) = %v, lifted %v", c.text, c.tale, web, lifted)
		}
	}
	// These run back between classes: they go round, too.
	for _, c := range []strictCase{{"write x 1; read x", "0/0312", "34 43"}, {"read x; write x 1", "4/0412", "34 43"}, {"write x 1; write x 2; read x", "3/03412", "45 54"}, {"write x 1; read x | write x 2", "0/03512", "34 43"}, {"write x 1; write x 2", "/04312", "34 43"}, {"read x; read x | write x 1", "50/0512", "53 34 45"}, {"write x 1; wait; read x", "0/0312", "34 43"}, {"swap x 1 | write x 2", "5/04512", "53 34 45"}} {
		c.mustBe(t, false, false)
		c.mustGoRound(t)
		if _, lifted := c.webs(); !impl.Round(lifted) {
			t.Errorf("StrictWeb(%q, %s), lifted, is %v", c.text, c.tale, lifted)
		}
	}
}

// Lines between events of clerks; from each of the first three lines go to all of them.
func TestStrictWebByHand(t *testing.T) {
	for _, c := range []struct {
		text, tale string
		events     int
		want       string
	}{
		{"-", "/012", 3, ""}, {"wait | - | wait", "/012", 3, ""}, {"read x", "0/012", 4, ""}, {"write x 1", "/0312", 4, ""}, {"- | - | read z", "2/012", 4, ""},
		// What a clerk did in order stays, with a wait between and without.
		{"write x 1; read y", "1/0312", 5, "34"}, {"write x 1; wait; read y", "1/0312", 5, "34"}, {"read y; read x; write z 1", "10/0125", 6, "34 35 45"}, {"write x 1; write y 1 | read x; read y", "01/03142", 7, "34 56 53 64"}, {"write x 1 | write y 1 | write z 1", "/031425", 6, ""},
		// Both see nothing, one sees the other's, both do.
		{"write x 1; read y | write y 1; read x", "10/03152", 7, "34 45 56 63"}, {"write x 1; read y | write y 1; read x", "13/03152", 7, "34 45 56 36"}, {"write x 1; read y | write y 1; read x", "50/03152", 7, "34 54 56 63"}, {"write x 1; read y | write y 1; read x", "53/03152", 7, "34 54 56 36"}, {"write x 1; wait; read y | write y 1; wait; read x", "10/03152", 7, "34 45 56 63"},
		// What it wrote itself.
		{"write x 1; read x", "3/0312", 5, "34"}, {"write x 1; read x", "0/0312", 5, "34 43"}, {"read x; write x 1", "0/0412", 5, "34"}, {"read x; write x 1", "4/0412", 5, "34 43"},
		{"write x 1; read x | write x 2", "3/03512", 6, "34 35 45"}, {"write x 1; read x | write x 2", "5/03512", 6, "34 35 54"}, {"write x 1; read x | write x 2", "3/05312", 6, "34 53"}, {"write x 1; read x | write x 2", "5/05312", 6, "34 53 54 43"}, {"write x 1; read x | write x 2", "0/03512", 6, "34 35 43 45"},
		// Swaps.
		{"swap x 1", "0/0412", 5, "34"}, {"swap x 1", "4/0412", 5, "34 43"}, {"swap x 1 | swap x 2", "04/04612", 7, "34 56 46 45 36"}, {"swap x 1 | swap x 2", "00/04612", 7, "34 56 46 36 54"}, {"swap x 1 | swap x 2", "64/04612", 7, "34 56 46 63 45"}, {"swap x 1 | swap x 2", "46/04612", 7, "34 43 56 65 46 36"},
		{"swap x 1; read y", "01/0412", 6, "34 35 45"}, {"write x 1; swap y 2; read z", "12/03152", 7, "34 35 36 45 46 56"},
		// Groups.
		{"write x 1 in 1; read y in 1 | write y 1; read x", "10/03152", 7, "34 45 56 63"}, {"write x 1 in 1; read x in 1", "3/0312", 5, "34"}, {"write x 1; read y in 1", "1/0312", 5, "34"}, {"read x in 1; write x 2 in 1 | write x 3", "5/05412", 6, "34 53 54"},
	} {
		w := clerksNamed(c.text)
		if got, want := impl.StrictWeb(w, taleNamed(c.tale)), withBeginnings(linesNamed(c.events, c.want)); !sameList(got, want) {
			t.Errorf("StrictWeb(%q, %s) = %v, want %v", c.text, c.tale, got, want)
		}
		mustJudgeStrict(t, strictlyOf(w), taleNamed(c.tale))
	}
}

// By the program's own answers: the four webs and nothing else, and no line of one kind is left out for another one's; SlowWeb has no line besides.
func TestStrictWebIsAllFourJoined(t *testing.T) {
	alone, more := [4]int{}, 0
	for _, text := range []string{"swap x 1 | swap x 2 | swap x 3", "write x 1; read y; write x 2 | write y 3; read x; write y 4", "read x; read x; write x 1; write x 2 | write x 3; read z", "write z 1; read z in 1; write z 2 in 1 | wait; read z; swap z 3", "read y; read z | read x; read y"} {
		w := clerksNamed(text)
		size := len(eventsTold(w))
		for n := range impl.TalesCount(w) {
			tale, _ := impl.TaleAt(w, n)
			kinds := [4][]int64{impl.Behind(w), impl.FromWeb(w, tale.From), impl.RowWeb(w, tale.Rows), impl.AgainstWeb(w, tale)}
			all := emptyWeb(size)
			for i, kind := range kinds {
				all = impl.Joined(all, kind)
				others := emptyWeb(size)
				for j, other := range kinds {
					if i != j {
						others = impl.Joined(others, other)
					}
				}
				alone[i] += countLines(impl.Less(kind, others))
			}
			got, slow := impl.StrictWeb(w, tale), impl.SlowWeb(w, tale)
			if !sameList(got, all) || !within(slow, got) {
				t.Fatalf("StrictWeb(%q, %v) = %v, want %v; SlowWeb is %v", text, tale, got, all, slow)
			}
			more += countLines(got) - countLines(slow)
		}
	}
	if slices.Contains(alone[:], 0) || more == 0 {
		t.Errorf("lines that are of one kind alone: %v; that SlowWeb has not: %d", alone, more)
	}
}

// What is written is not asked, nor a wait; a swap in place of a read and a write, and a Group are.
func TestWhatStrictOkAsks(t *testing.T) {
	for _, c := range []struct {
		one, other string
		same       bool
	}{
		{"write x 1; read y | write y 1; read x", "write x 7; read y | write y 9; read x", true}, {"write x 1; read y | write y 1; read x", "write x 1; wait; read y | write y 1; wait; read x", true}, {"write x 1; read y | write y 1; read x", "write x 1 in 1; read y in 1 | write y 1 in 2; read x in 2", false}, {"write x 1; read y | write y 1; read x", "write x 1 in 1; read y in 2 | write y 1 in 3; read x in 4", true},
		{"swap x 1 | swap x 2", "swap x 5 | swap x 5", true}, {"swap x 1 | swap x 2", "read x; write x 1 | read x; write x 2", false}, {"swap x 1 | swap x 2", "read x in 3; write x 1 in 3 | read x in 7; write x 2 in 7", true}, {"write x 1; write y 1 | read x; read y", "write x 1 in 1; write y 1 in 1 | read x; read y", false}, {"write x 1; read x | read x", "write x 1 | read x; read x", false},
	} {
		one, other, same := clerksNamed(c.one), clerksNamed(c.other), true
		for n := range impl.TalesCount(one) {
			tale, _ := impl.TaleAt(one, n)
			same = same && impl.StrictOk(one, tale) == impl.StrictOk(other, tale)
		}
		if same != c.same || impl.TalesCount(one) != impl.TalesCount(other) {
			t.Errorf("%q and %q have the same tales: %v", c.one, c.other, same)
		}
	}
}

func mustHaveNoStrict(t *testing.T, w [][]impl.Deed, tale impl.Tale) {
	t.Helper()
	if web := impl.StrictWeb(w, tale); impl.StrictOk(w, tale) || len(web) != 0 {
		t.Errorf("of %v and %v: StrictOk is %v, with %v", w, tale, impl.StrictOk(w, tale), web)
	}
}

// The source is wrong, the rows are, both are.
func TestNoStrictWebOfNoTale(t *testing.T) {
	for _, c := range []struct{ text, tales string }{
		{"-", "/ 0/012 /01 /0123 /021 0/0 012/"}, {"read x", "/012 1/012 3/012 00/012 0/ 0/021 0/0123 3/0312"},
		{"write x 1; read x", "/ 3/ /0312 4/0312 1/0312 33/0312 3/012 3/0321 3/3012 3/0412 3/03122 4/0412 0312/3"},
		{"write x 1; read x | write x 2", "5/0351 5/035122 5/03412 5/03312 5/30512 4/03512 1/03512 55/03512 /03512 6/03612 9/03512"},
		{"swap x 1 | swap x 2", "0/04612 444/04612 43/04612 64/0462 64/046612 64/03512 64/46012 64/04621 53/03512"},
		{"write x 1; read y | write y 1; read x", "01/03152 35/03152 10/0315 10/15203 10/03512 1/03152 105/03152"},
	} {
		w := clerksNamed(c.text)
		for word := range strings.FieldsSeq(c.tales) {
			mustHaveNoStrict(t, w, taleNamed(word))
			mustJudgeStrict(t, strictlyOf(w), taleNamed(word))
		}
		first, _ := impl.TaleAt(w, 0)
		for _, n := range append([]int64{-1, -2, -9, 9, 10, 11, 12, 13, 64, 1 << 32, 1<<32 + 1, 1 << 62}, far...) {
			for i := range len(first.From) + len(first.Rows) {
				tale := copiedTale(first)
				if i < len(tale.From) {
					tale.From[i] = n
				} else {
					tale.Rows[i-len(tale.From)] = n
				}
				mustHaveNoStrict(t, w, tale)
			}
		}
	}
}

// Tales whose source, whose rows, and both of which are one off: some of them are tales again.
func TestStrictOfTalesOneOff(t *testing.T) {
	for _, text := range []string{"-", "read y", "write x 1; read x | write x 2", "swap x 1 | swap x 2", "write x 1; read y | write y 1; read x"} {
		w := clerksNamed(text)
		s := strictlyOf(w)
		others := []int64{-1, 12}
		for n := range int64(len(s.list)) + 1 {
			others = append(others, n)
		}
		for _, tale := range someTales(w) {
			sources := oneOff(tale.From, others)
			for _, from := range sources {
				mustJudgeStrict(t, s, impl.Tale{From: from, Rows: tale.Rows})
			}
			for i, rows := range oneOff(tale.Rows, others) {
				mustJudgeStrict(t, s, impl.Tale{From: tale.From, Rows: rows})
				mustJudgeStrict(t, s, impl.Tale{From: sources[i%len(sources)], Rows: rows})
			}
			for _, wrong := range []impl.Tale{{From: tale.Rows, Rows: tale.From}, {From: tale.From}, {From: tale.Rows}, {From: tale.Rows, Rows: tale.Rows}, {From: tale.From, Rows: tale.From}} {
				mustHaveNoStrict(t, w, wrong)
			}
		}
	}
}

func TestStrictOfWhatIsNoWork(t *testing.T) {
	for _, w := range wrongWorks() {
		for _, word := range []string{"/", "/012", "0/012", "/0312", "0/0312", "00/012", "000/012", "00000/012", "0000000/012", "00000/0812", "0/04612", "111/0132", "0000/0468912", "/012345678", "012/"} {
			mustHaveNoStrict(t, w, taleNamed(word))
		}
		for _, tale := range handedTales() {
			mustHaveNoStrict(t, w, tale)
		}
		mustHaveStrict(t, w)
	}
}

// The zero Tale is none, not even of a work without Deeds.
func TestTheZeroTaleIsNotStrictOk(t *testing.T) {
	for _, text := range append(rightWorks(), "write x 1", "write y 1 | write z 2", "read y") {
		w := clerksNamed(text)
		mustHaveNoStrict(t, w, impl.Tale{})
		mustHaveNoStrict(t, w, impl.Tale{From: []int64{}, Rows: []int64{}})
	}
	mustHaveNoStrict(t, nil, impl.Tale{})
	mustHaveNoStrict(t, nil, taleNamed("/012"))
	mustHaveNoStrict(t, [][]impl.Deed{}, impl.Tale{From: []int64{}, Rows: []int64{}})
}

// Tales of one work are handed beside another one; and the source of one with the rows of the other.
func TestStrictOfAnotherWork(t *testing.T) {
	texts := []string{"-", "read x", "read y", "write x 1", "write y 1", "swap x 1", "write x 1; read x", "read x; write x 1", "write x 1 | read x", "write x 1; read y | write y 1; read x", "write x 1; wait; read y | write y 1; wait; read x", "write y 1; read x | write x 1; read y", "swap x 1 | swap x 2", "read x; write x 1 | read x; write x 2", "write x 1; write x 2; read x | read x"}
	met := map[[2]bool]int{}
	for _, own := range texts {
		s := strictlyOf(clerksNamed(own))
		first, _ := impl.TaleAt(s.w, 0)
		for _, other := range texts {
			for n := range impl.TalesCount(clerksNamed(other)) {
				tale, _ := impl.TaleAt(clerksNamed(other), n)
				is := mustJudgeStrict(t, s, tale)
				mustJudgeStrict(t, s, impl.Tale{From: first.From, Rows: tale.Rows})
				mustJudgeStrict(t, s, impl.Tale{From: tale.From, Rows: first.Rows})
				met[[2]bool{is, impl.StrictOk(clerksNamed(other), tale)}]++
			}
		}
	}
	for _, both := range [][2]bool{{false, false}, {false, true}, {true, false}, {true, true}} {
		if met[both] == 0 {
			t.Errorf("no tale that is StrictOk of its own and of the other work: %v", both)
		}
	}
	// By hand: the place is another one, the number is, and there are as many of both.
	for _, c := range []struct{ text, tale string }{
		{"read y", "0/012"}, {"read x", "1/012"}, {"write y 1", "/0312"}, {"write x 1", "/0132"}, {"write x 1; read x", "4/0412"}, {"read x; write x 1", "3/0312"}, {"swap x 1", "3/0312"},
		{"write y 1; read x | write x 1; read y", "13/03152"}, {"write x 1; write x 2", "0/0312"}, {"-", "0/012"}, {"read x", "/012"}, {"write x 1 | read x", "4/0412"},
	} {
		mustHaveNoStrict(t, clerksNamed(c.text), taleNamed(c.tale))
	}
}

func TestStrictOfVeryLongLists(t *testing.T) {
	const long = 1 << 20
	clerks, zeros := make([][]impl.Deed, long), make([]int64, long)
	mustHaveStrict(t, clerks[:3])
	works := [][][]impl.Deed{clerks, clerks[:4]}
	for _, d := range []impl.Deed{{}, {Kind: 4}, {Kind: 3, Value: 1}} {
		list := make([]impl.Deed, long)
		for i := range list {
			list[i] = d
		}
		works = append(works, workOf(list), workOf(nil, list, nil), workOf(list, list, list))
	}
	for _, w := range works {
		mustHaveNoStrict(t, w, impl.Tale{Rows: []int64{0, 1, 2}})
		mustHaveNoStrict(t, w, impl.Tale{From: zeros, Rows: zeros})
	}
	for _, text := range []string{"-", "read x", "write x 1; read x | swap x 2", "write y 1; write y 2; write y 3; write y 4; write y 5 | write y 6"} {
		w := clerksNamed(text)
		first, _ := impl.TaleAt(w, 0)
		for _, n := range []int{1, 7, 9, 12, 13, 64, 257, long} {
			more := impl.Tale{From: append(copied(first.From), zeros[:n]...), Rows: append(copied(first.Rows), zeros[:n]...)}
			for _, tale := range []impl.Tale{more, {From: first.From, Rows: more.Rows}, {From: more.From, Rows: first.Rows}} {
				mustHaveNoStrict(t, w, tale)
			}
		}
	}
}

func askedForStrict(t *testing.T) asking {
	return func(w [][]impl.Deed, list []impl.Event, tale impl.Tale) {
		mustJudgeStrict(t, strictlyOf(w), tale)
		spoil(impl.StrictWeb(w, tale))
	}
}

func TestStrictLeavesItsArgumentsAlone(t *testing.T) { mustLeaveTalesAlone(t, askedForStrict(t)) }

func TestStrictOfListsInOneMemory(t *testing.T) { mustTakeOneMemory(t, askedForStrict(t)) }

func TestStrictWebsAreNewMemory(t *testing.T) {
	for _, w := range taleWorks() {
		l, s := laid(w), strictlyOf(w)
		before := l.copied()
		count := max(talesCounted(s.list), 0)
		// All are asked for ahead of the first one that is spoilt, so that two that lie in one memory are found.
		tales, webs, slow := []impl.Tale{}, [2][][]int64{}, [][]int64{}
		for n := range count {
			tale, _ := impl.TaleAt(l.given, n)
			tales, slow = append(tales, tale), append(slow, impl.SlowWeb(l.given, tale))
			for i := range 2 {
				webs[i] = append(webs[i], impl.StrictWeb(l.given, tale))
			}
		}
		for n := range count {
			tale := taleTold(s.list, n)
			web, slowWeb := s.strictWebTold(tale), s.slowWebTold(tale)
			areLeft := func() bool { return sameList(webs[1][n], web) && sameList(slow[n], slowWeb) }
			if !areLeft() || !sameList(webs[0][n], web) || !sameTale(tales[n], tale) {
				t.Fatalf("of %v two answers share memory: %v, %v, %v, %v", w, webs[0][n], webs[1][n], slow[n], tales[n])
			}
			spoil(webs[0][n])
			if !areLeft() || !sameTale(tales[n], tale) {
				t.Fatalf("StrictWeb(%v, %v) shares memory", w, tale)
			}
			// What was handed in is spoilt, and the answers stay.
			spoil(tales[n].From)
			spoil(tales[n].Rows)
			if !areLeft() {
				t.Fatalf("StrictWeb(%v, %v) lies in the tale's memory", w, tale)
			}
			spoil(webs[1][n])
			if !sameList(slow[n], slowWeb) {
				t.Fatalf("StrictWeb(%v, %v) lies in the memory of SlowWeb", w, tale)
			}
		}
		spoil(impl.StrictWeb(l.given, impl.Tale{}))
		mustHaveStrict(t, w)
		if !l.isAs(before) {
			t.Errorf("an answer of %v shares memory with it", w)
		}
	}
}

// A tale may be changed, and handed in again: it is asked by what it is now.
func TestStrictOfATaleThatIsChanged(t *testing.T) {
	w := clerksNamed("write x 1; read y | write y 1; read x")
	tale, _ := impl.TaleAt(w, 0)
	for _, c := range []struct {
		tale string
		ok   bool
	}{{"10/03152", false}, {"13/03152", true}, {"53/03152", true}, {"43/03152", false}, {"50/03152", true}, {"50/03125", false}, {"50/03152", true}, {"10/03152", false}} {
		now := taleNamed(c.tale)
		copy(tale.From, now.From)
		copy(tale.Rows, now.Rows)
		if got := impl.StrictOk(w, tale); got != c.ok {
			t.Errorf("StrictOk of %s is %v", c.tale, got)
		}
		mustJudgeStrict(t, strictlyOf(w), tale)
	}
}

// One list may be several clerks': each of them has reads and writes of its own.
func TestStrictOfOneListForAllClerks(t *testing.T) {
	for _, list := range [][]impl.Deed{{}, clerkOf("read x"), clerkOf("write x 1"), clerkOf("write x 1", "read x"), clerkOf("write x 1", "wait", "read x"), clerkOf("read x", "read x"), clerkOf("swap x 1"), clerkOf("read x in 1")} {
		mustHaveStrict(t, workOf(list, list))
		mustHaveStrict(t, workOf(list, list, list))
	}
}
