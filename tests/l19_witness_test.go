package tests

import (
	"fmt"
	"slices"
	"strings"
	"testing"
	"time"

	"loop.example/g00411/impl"
)

// taleOfTold goes on from the test's own new board, and takes the tale off the one that comes of it.
func taleOfTold(w [][]impl.Deed, steps []int64) (impl.Tale, bool) {
	b, is := ranTold(w, steps)
	if !is || leftTold(b) > 0 {
		return impl.Tale{}, false
	}
	return impl.Tale{From: b.From, Rows: slices.Concat(b.Rows...)}, true
}

// contiguousTold wants each step to be one that can be done there, and nothing left behind the last one.
func contiguousTold(w [][]impl.Deed, steps []int64) bool {
	if !isWork(w) || len(steps) > 40 {
		return false
	}
	b, list, can := boardTold(w), eventsTold(w), true
	for _, s := range steps {
		if b, can = stepTold(b, list, s); !can {
			return false
		}
	}
	return leftTold(b) == 0
}

// turnsTold are the first events of all Classes of clerks: of those that are left, and have no line from another one that is left, always the least.
func turnsTold(lifted grid, classes []int64) []int64 {
	left, turns := []int64{}, []int64{}
	for n := 3; n < len(classes); n++ {
		if classes[n] == int64(n) {
			left = append(left, int64(n))
		}
	}
	for len(left) > 0 {
		at := slices.IndexFunc(left, func(n int64) bool {
			return !slices.ContainsFunc(left, func(other int64) bool { return lifted[other][n] })
		})
		turns, left = append(turns, left[at]), slices.Delete(left, at, at+1)
	}
	return turns
}

// hand is a clerk without a board: the Deeds that are left to it, and how many notes it has.
type hand struct {
	left  []impl.Deed
	notes int
}

func isNote(d impl.Deed) bool { return d.Kind == 2 && d.Group == 0 }

// isFree tells of a hand whether its next Deed is a write that leaves a note, or a wait without notes.
func (h hand) isFree() bool {
	return len(h.left) > 0 && (isNote(h.left[0]) || h.left[0].Kind == 4 && h.notes == 0)
}

// hands are all clerks of a work, and the steps that they took so far.
type hands struct {
	of    []hand
	steps []int64
}

// works lets a clerk do its next Deed, with all that is left of its Group.
func (h *hands) works(c int64) {
	own := &h.of[c]
	first := own.left[0]
	if isNote(first) {
		own.notes++
	}
	own.left = own.left[1:]
	for first.Group != 0 && len(own.left) > 0 && own.left[0].Group == first.Group {
		own.left = own.left[1:]
	}
	h.steps = append(h.steps, c)
}

func (h *hands) worksFreely(c int64) {
	for h.of[c].isFree() {
		h.works(c)
	}
}

// stepsTold is StepsFor as the test reads it: by lines it asks whether the tale is SlowOk, and whose turn it is.
func stepsTold(w [][]impl.Deed, tale impl.Tale) ([]int64, bool) {
	s := slowlyOf(w)
	if !isEach(s.list, tale) {
		return nil, false
	}
	lifted := liftedBySearch(s.slowWebTold(tale), s.classes)
	if runsBack(lifted) {
		return nil, false
	}
	h := hands{}
	for _, list := range w {
		h.of = append(h.of, hand{left: list})
	}
	for _, n := range turnsTold(gridOf(lifted), s.classes) {
		e := s.list[n]
		h.worksFreely(e.Clerk)
		if isNote(w[e.Clerk][e.Deed]) {
			h.of[e.Clerk].notes--
			h.steps = append(h.steps, 10+e.Clerk)
		} else {
			h.works(e.Clerk)
		}
	}
	for c := range w {
		h.worksFreely(int64(c))
	}
	return h.steps, true
}

// witnessed counts tales: all, and those that StepsFor tells steps for; of these the ones whose steps leave a note while others go on, and the most steps.
type witnessed struct{ tales, told, slowly, longest int }

func (l *witnessed) add(more witnessed) {
	l.tales, l.told, l.slowly, l.longest = l.tales+more.tales, l.told+more.told, l.slowly+more.slowly, max(l.longest, more.longest)
}

// mustHaveWitnessed wants tales of each sort: the promise would say little of the others.
func mustHaveWitnessed(t *testing.T, met witnessed) {
	t.Helper()
	if met.slowly == 0 || met.slowly >= met.told || met.told >= met.tales {
		t.Errorf("met: %v", met)
	}
}

// leavesANote finds, behind a write, another clerk's step ahead of the note's.
func leavesANote(steps []int64) bool {
	for i := range steps {
		c := steps[i] - 10
		if at := slices.Index(steps, c); c >= 0 && slices.ContainsFunc(steps[at:i], func(s int64) bool { return s%10 != c }) {
			return true
		}
	}
	return false
}

// mustBeFaithful is promise 19 of a tale, by the program's own answers.
func mustBeFaithful(t *testing.T, w [][]impl.Deed, tale impl.Tale) witnessed {
	t.Helper()
	steps, is := impl.StepsFor(w, tale)
	faithful := impl.Faithful(w, tale)
	if slow := impl.SlowOk(w, tale); is != slow || faithful != slow || !slow && len(steps) != 0 {
		t.Fatalf("StepsFor(%v, %v) = %v, %v; SlowOk is %v, Faithful %v", w, tale, steps, is, slow, faithful)
	}
	if !is {
		return witnessed{tales: 1}
	}
	if !impl.Contiguous(w, steps) {
		t.Fatalf("StepsFor(%v, %v) = %v, which is not Contiguous", w, tale, steps)
	}
	if told, ended := impl.TaleOf(w, steps); !ended || !sameTale(told, tale) {
		t.Fatalf("StepsFor(%v, %v) = %v; TaleOf that is %v, %v", w, tale, steps, told, ended)
	}
	met := witnessed{tales: 1, told: 1, longest: len(steps)}
	if leavesANote(steps) {
		met.slowly = 1
	}
	return met
}

// mustTellSteps holds StepsFor of a tale, or of what is none, against what the test tells, and the steps against the test's own board.
func mustTellSteps(t *testing.T, w [][]impl.Deed, tale impl.Tale) witnessed {
	t.Helper()
	want, is := stepsTold(w, tale)
	if got, ok := impl.StepsFor(w, tale); ok != is || !sameList(got, want) {
		t.Fatalf("StepsFor(%v, %v) = %v, %v; want %v, %v", w, tale, got, ok, want, is)
	}
	if told, ended := taleOfTold(w, want); is && (!ended || !sameTale(told, tale) || !contiguousTold(w, want)) {
		t.Fatalf("of %v: by %v comes %v, and not %v", w, want, told, tale)
	}
	return mustBeFaithful(t, w, tale)
}

// mustTellStepsForAll goes through all tales of a work, and some that are none.
func mustTellStepsForAll(t *testing.T, w [][]impl.Deed) witnessed {
	t.Helper()
	list, met := eventsTold(w), witnessed{}
	for n := range max(talesCounted(list), 0) {
		met.add(mustTellSteps(t, w, taleTold(list, n)))
	}
	for _, tale := range []impl.Tale{{}, {From: []int64{0}}, {Rows: []int64{0, 1, 2}}, {From: []int64{0}, Rows: []int64{0, 1, 2}}, {From: []int64{0, 1, 2}}} {
		mustTellSteps(t, w, tale)
	}
	return met
}

// mustTellTale holds TaleOf and Contiguous of some steps against what the test tells; it answers whether there is a tale.
func mustTellTale(t *testing.T, w [][]impl.Deed, steps []int64) bool {
	t.Helper()
	want, is := taleOfTold(w, steps)
	if got, ok := impl.TaleOf(w, steps); ok != is || !sameTale(got, want) {
		t.Fatalf("TaleOf(%v, %v) = %v, %v; want %v, %v", w, steps, got, ok, want, is)
	}
	if got := impl.Contiguous(w, steps); got != contiguousTold(w, steps) {
		t.Fatalf("Contiguous(%v, %v) = %v", w, steps, got)
	}
	return is
}

// Promise 19, its first half: of many works, whatever is picked till all is ended; the tale is SlowOk, and its outcome is what the board shows.
func TestTaleOfWhatIsEndedIsSlowOk(t *testing.T) {
	runs, met, seed := 0, map[taleKey]bool{}, int64(1)
	next := func(n int) int {
		seed = (seed*1103515245 + 12345) % (1 << 31)
		return int(seed>>8) % n
	}
	for _, w := range slices.Concat(endedWorks(), someWorks()) {
		if !isWork(w) {
			continue
		}
		for range 4 {
			steps, _ := picked(t, w, func(_ int, possible []int64) int64 { return possible[next(len(possible))] })
			// A step that is passed over changes nothing.
			more := slices.Insert(slices.Clone(steps), next(len(steps)+1), []int64{3, 9, 13, -1}[next(4)])
			ran, _ := impl.Ran(w, steps)
			for _, way := range [][]int64{steps, more} {
				tale, is := impl.TaleOf(w, way)
				if !is || !impl.SlowOk(w, tale) || !sameList(impl.OutcomeOf(w, tale), impl.ShownBoard(ran)) {
					t.Fatalf("TaleOf(%v, %v) = %v, %v; %v is shown", w, way, tale, is, impl.ShownBoard(ran))
				}
				runs++
				met[keyOfTale(tale)] = true
			}
			if !impl.Contiguous(w, steps) || impl.Contiguous(w, more) {
				t.Fatalf("of %v: %v is Contiguous: %v; %v: %v", w, steps, impl.Contiguous(w, steps), more, impl.Contiguous(w, more))
			}
		}
	}
	if runs < 1000 || len(met) < 200 {
		t.Errorf("%d runs, %d tales", runs, len(met))
	}
}

// Promise 19, its second half: of many works all tales, those that are SlowOk and those that are not.
func TestStepsForWhatIsSlowOkTellJustThatTale(t *testing.T) {
	met := witnessed{}
	for _, w := range slices.Concat(endedWorks(), someWorks()) {
		for n := range max(impl.TalesCount(w), 0) {
			tale, _ := impl.TaleAt(w, n)
			met.add(mustBeFaithful(t, w, tale))
		}
	}
	mustHaveWitnessed(t, met)
}

// Promise 19, both ways: the tales of all boards that are ended are just those that StepsFor tells steps for.
func TestEachTaleIsSomeRunsAndEachRunIsATale(t *testing.T) {
	for _, text := range slices.Concat(walkedWorks(), rightWorks()) {
		w := clerksNamed(text)
		run, told := map[taleKey]bool{}, map[taleKey]bool{}
		for _, b := range boardsOf(w) {
			if impl.Ended(b) {
				run[keyOfTale(impl.Tale{From: b.From, Rows: slices.Concat(b.Rows...)})] = true
			}
		}
		for n := range impl.TalesCount(w) {
			tale, _ := impl.TaleAt(w, n)
			if _, is := impl.StepsFor(w, tale); is {
				told[keyOfTale(tale)] = true
			}
		}
		for key := range told {
			if !run[key] {
				t.Errorf("of %q nobody comes to %v", text, key)
			}
		}
		if len(run) == 0 || len(run) != len(told) {
			t.Errorf("of %q come %d tales, and %d have steps", text, len(run), len(told))
		}
	}
}

// Promise 19: steps of which each may be passed over. Each tale that comes of them has steps of its own, which tell it again.
func TestTaleOfManySteps(t *testing.T) {
	ended, seed := 0, int64(1)
	for i, w := range append(endedWorks(), someWorks()...) {
		if i%3 != 0 {
			continue
		}
		steps := []int64{}
		for range i % 42 {
			seed = (seed*1103515245 + 12345) % (1 << 31)
			steps = append(steps, []int64{0, 1, 2, 10, 11, 12, 0, 1, 2, 10, 11, 12, -1, 3, 9, 13}[seed>>16%16])
		}
		if !mustTellTale(t, w, steps) {
			continue
		}
		tale, _ := impl.TaleOf(w, steps)
		if mustTellSteps(t, w, tale).told != 1 {
			t.Errorf("of %v by %v comes %v, which has no steps", w, steps, tale)
		}
		if len(steps) > 0 {
			ended++
		}
	}
	if ended < 50 {
		t.Errorf("%d ended", ended)
	}
}

func TestStepsForOfOneClerk(t *testing.T) {
	met := witnessed{}
	some := append(clerksOf(clerkOf("read x", "write x 1", "swap x 2", "wait", "write y 3"), 3), clerksOf(clerkOf("read x in 1", "write x 1 in 1", "read x", "write x 2 in 2"), 3)...)
	for _, one := range some {
		met.add(mustTellStepsForAll(t, workOf(one)))
		met.add(mustTellStepsForAll(t, workOf(nil, one, nil)))
	}
	// There is nobody to go on beside a note.
	if met.told == 0 || met.told >= met.tales || met.slowly > 0 {
		t.Errorf("met: %v", met)
	}
}

func TestStepsForOfTwoClerks(t *testing.T) {
	met := witnessed{}
	plain, all := twoSorts()
	for _, one := range all {
		for _, two := range plain {
			met.add(mustTellStepsForAll(t, workOf(one, two)))
		}
	}
	for _, one := range clerksOf(clerkOf("read x", "write x 1", "swap y 2", "wait"), 2) {
		for _, two := range plain {
			met.add(mustTellStepsForAll(t, workOf(append(slices.Clone(one), clerkOf("wait")...), revalued(workOf(two))[0])))
		}
	}
	mustHaveWitnessed(t, met)
}

func TestStepsForOfThreeClerks(t *testing.T) {
	met := witnessed{}
	some := [][]impl.Deed{nil, clerkOf("read x"), clerkOf("swap x 2"), clerkOf("write x 1", "read y"), clerkOf("write y 2", "wait", "read x"), clerkOf("write y 3", "write x 4")}
	for _, one := range append(slices.Clone(some), clerkOf("write x 1 in 1", "read y in 1")) {
		for _, two := range append(slices.Clone(some), clerkOf("write y 7", "read x in 2")) {
			for _, three := range some {
				met.add(mustTellStepsForAll(t, workOf(one, two, three)))
			}
		}
	}
	mustHaveWitnessed(t, met)
}

// Works of all Kinds, Groups and lengths, and some that are none.
func TestStepsForOfManyWorks(t *testing.T) {
	met := witnessed{}
	for i, one := range mixedClerks() {
		for j, two := range mixedClerks() {
			if (i+j)%3 == 0 {
				met.add(mustTellStepsForAll(t, workOf(one, two)))
			}
		}
	}
	for d := range shownDeeds {
		met.add(mustTellStepsForAll(t, workOf(clerkOf("write x 1", "read y"), append(clerkOf("write y 1"), d))))
	}
	for _, text := range rightWorks() {
		met.add(mustTellStepsForAll(t, clerksNamed(text)))
	}
	mustHaveWitnessed(t, met)
}

// stepWords has the steps of a text.
func stepWords(text string) []int64 {
	steps := []int64{}
	for word := range strings.FieldsSeq(text) {
		steps = append(steps, wholeNamed(word))
	}
	return steps
}

// onlyTale is the one tale of the work that is SlowOk.
func onlyTale(t *testing.T, w [][]impl.Deed) impl.Tale {
	t.Helper()
	all := []impl.Tale{}
	for n := range impl.TalesCount(w) {
		if tale, _ := impl.TaleAt(w, n); impl.SlowOk(w, tale) {
			all = append(all, tale)
		}
	}
	if len(all) != 1 {
		t.Fatalf("of %v are SlowOk: %v", w, all)
	}
	return all[0]
}

// Each kind of Deed alone, and behind each kind, done by each of three clerks: the first row is alone, then behind a read, a write, a swap, a wait, a read of a Group, a write of one.
func TestStepsForOfEachKind(t *testing.T) {
	kinds := []string{"read x", "write x 1", "swap x 2", "wait", "read x in 1", "write x 3 in 2"}
	for i, row := range [][]string{
		{"0", "0 10", "0", "0", "0", "0"},
		{"0 0", "0 0 10", "0 0", "0 0", "0 0", "0 0"},
		{"0 10 0", "0 0 10 10", "0 10 0", "0 10 0", "0 10 0", "0 10 0"},
		{"0 0", "0 0 10", "0 0", "0 0", "0 0", "0 0"},
		{"0 0", "0 0 10", "0 0", "0 0", "0 0", "0 0"},
		{"0 0", "0 0 10", "0 0", "0 0", "0", "0 0"},
		{"0 0", "0 0 10", "0 0", "0 0", "0 0", "0"},
	} {
		for j, text := range row {
			list := []impl.Deed{}
			if i > 0 {
				list = clerkOf(kinds[i-1])
			}
			list = append(list, clerkOf(kinds[j])...)
			for c := range int64(3) {
				w, want := make([][]impl.Deed, 3), stepWords(text)
				w[c] = list
				for at := range want {
					want[at] += c
				}
				if got, is := impl.StepsFor(w, onlyTale(t, w)); !is || !sameList(got, want) {
					t.Errorf("StepsFor of %q is %v, %v; want %v", impl.ShowWork(w), got, is, want)
				}
			}
		}
	}
}

// witnessCase is a work, a tale of it, and the steps for it.
type witnessCase struct{ work, tale, steps string }

func stepsByHand() []witnessCase {
	const both, waited, bothWait = "write x 1; read y | write y 1; read x", "write x 1; wait; read y | write y 1; wait; read x", "wait; write x 1; read y; wait | wait; write y 1; read x; wait"
	const own, half, three = "write x 1; read x | write x 2", "write x 1 in 1; write y 2 in 1 | read x; read y", "write x 1 | read x; write y 1 | read y; read x"
	return []witnessCase{
		// Nothing to do, and waits alone.
		{"-", "/012", ""}, {"- | - | -", "/012", ""}, {"wait", "/012", "0"}, {"wait; wait | - | wait", "/012", "0 0 2"}, {"- | wait | wait; wait", "/012", "1 2 2"},
		// Both look: each tale has another order, by its lines, and the least that may stand there comes first.
		{both, "10/03152", "0 0 1 11 1 10"}, {both, "13/03152", "0 10 0 1 11 1"}, {both, "50/03152", "1 11 0 0 1 10"}, {both, "53/03152", "0 10 1 11 0 1"},
		{waited, "13/03152", "0 10 0 0 1 11 1 1"}, {waited, "50/03152", "1 11 1 1 0 10 0 0"}, {waited, "53/03152", "0 10 1 11 0 0 1 1"},
		// A wait ahead of a write's note and behind it; what is left of it comes last, clerk by clerk.
		{"wait; write x 1; wait", "/0312", "0 0 10 0"}, {bothWait, "10/03152", "0 0 0 1 1 11 1 10 0 1"}, {"write x 1; wait; write x 2; wait; read x", "4/03412", "0 10 0 0 10 0 0"}, {"write x 1; write y 2; wait; read x; wait", "3/03142", "0 0 10 10 0 0 0"}, {"wait; wait; write x 1; wait; wait", "/0312", "0 0 0 10 0 0"}, {"write x 1; wait | write x 2; wait | wait", "/04312", "1 11 0 10 0 1 2"}, {"write x 1; wait; wait; swap x 2 | -", "3/03512", "0 10 0 0 0"}, {"read x; wait; wait | wait; write x 1; wait", "4/0412", "1 1 11 0 0 0 1"},
		// Two clerks at one place, in each order of the row.
		{"write x 1 | write x 2", "/03412", "0 10 1 11"}, {"write x 1 | write x 2", "/04312", "1 11 0 10"}, {"write z 1; write z 2 | write z 3; write z 4", "/0123456", "0 0 10 10 1 1 11 11"}, {"write z 1; write z 2 | write z 3; write z 4", "/0125634", "1 1 11 11 0 0 10 10"}, {"write z 1; write z 2 | write z 3; write z 4", "/0123546", "0 0 10 1 1 11 10 11"}, {"write z 1; write z 2 | write z 3; write z 4", "/0125346", "1 1 11 0 0 10 10 11"}, {"write x 1 | write x 2 | write x 3", "/054312", "2 12 1 11 0 10"}, {"write x 1 | write x 2 | write x 3", "/045312", "1 11 2 12 0 10"},
		// It sees its own note, or another one's over it.
		{own, "3/03512", "0 10 0 1 11"}, {own, "3/05312", "0 0 1 11 10"}, {own, "5/03512", "0 10 1 11 0"}, {"write x 1; write x 2; read x | write x 3", "4/036412", "0 0 10 0 1 11 10"}, {"write x 1; read x; read y | write y 1; read y; read x", "3160/03162", "0 0 0 1 11 1 1 10"},
		// Swaps and Groups: of two Deeds, of more, one behind the other, behind a note.
		{"swap x 1 | swap x 2", "04/04612", "0 1"}, {"swap x 1 | swap x 2", "60/06412", "1 0"}, {"swap x 1 | swap x 2 | swap x 3", "680/086412", "2 1 0"}, {half, "01/03142", "1 1 0"}, {half, "04/03142", "1 0 1"}, {half, "34/03142", "0 1 1"}, {"read x in 1; write x 1 in 1; read x in 1; write y 2 in 1 | -", "04/04162", "0"}, {"write x 1 in 1; write x 2 in 1; write y 3 in 2; write y 4 in 2; write z 5", "/03415627", "0 0 0 10"},
		{"write y 5; write x 1 in 1; read y in 1 | read y", "31/04132", "1 0 10 0"}, {"write y 5; write x 1 in 1; read y in 1 | read y", "33/04132", "0 10 0 1"}, {"wait; write x 1; wait; read x in 3; write y 2 in 3", "3/03152", "0 0 10 0 0"}, {"write x 1 in 1; read y in 1 | write y 1 in 2; read x in 2", "13/03152", "0 1"}, {"write x 1 in 1; read y in 1 | write y 1 in 2; read x in 2", "50/03152", "1 0"}, {"write x 1 in 1; write x 2; wait; read z in 2; read z in 2 | -", "22/03412", "0 0 10 0 0"},
		// Three clerks, and clerks without Deeds.
		{three, "353/03152", "0 10 1 1 11 2 2"}, {three, "010/03152", "1 2 1 11 2 0 10"}, {"- | write x 1; read x", "3/0312", "1 11 1"}, {"- | - | read z; write z 1", "2/0124", "2 2 12"}, {"write x 1 | - | read x", "0/0312", "2 0 10"}, {"write x 1 | - | read x", "3/0312", "0 10 2"},
		// Writes to all three places by two clerks: 3, 4, 5 and 6, 7, 8.
		{"write x 1; write y 2; write z 3 | write z 4; write y 5; write x 6", "/038147265", "0 0 0 10 10 1 1 1 11 10 11 11"}, {"write x 1; write y 2; write z 3 | write z 4; write y 5; write x 6", "/038174265", "0 0 0 10 1 1 1 11 11 10 10 11"},
	}
}

func TestStepsForByHand(t *testing.T) {
	for _, c := range stepsByHand() {
		w, tale := clerksNamed(c.work), taleNamed(c.tale)
		steps := stepWords(c.steps)
		if got, is := impl.StepsFor(w, tale); !is || !sameList(got, steps) {
			t.Errorf("StepsFor of %q, %s, is %v, %v; want %v", c.work, c.tale, got, is, steps)
		}
		if told, is := impl.TaleOf(w, steps); !is || wordOfTale(told) != c.tale {
			t.Errorf("TaleOf of %q, %v, is %v, %v; want %s", c.work, steps, told, is, c.tale)
		}
		if !impl.Contiguous(w, steps) || !impl.Faithful(w, tale) {
			t.Errorf("of %q, %s: Contiguous %v, Faithful %v", c.work, c.tale, impl.Contiguous(w, steps), impl.Faithful(w, tale))
		}
		mustTellStepsForAll(t, w)
	}
}

// All orders of the rows that there may be: the steps bring the writes to the board in just that order, and no two tales have the same.
func TestStepsForInEachOrderOfTheRow(t *testing.T) {
	for text, many := range map[string]int{"write x 1; write x 2 | write x 3; write x 4": 6, "write y 1; write y 2 | write y 3; write y 4 | write y 5; write y 6": 90, "write z 1; read z | write z 2; read x | swap z 3": 12, "write x 1; write y 2; write z 3 | write z 4; write y 5; write x 6": 4} {
		w, met := clerksNamed(text), map[string]bool{}
		for n := range impl.TalesCount(w) {
			tale, _ := impl.TaleAt(w, n)
			steps, is := impl.StepsFor(w, tale)
			if !is {
				continue
			}
			if met[fmt.Sprint(steps)] {
				t.Errorf("of %q two tales have the steps %v", text, steps)
			}
			met[fmt.Sprint(steps)] = true
			ran, _ := impl.Ran(w, steps)
			if !sameList(slices.Concat(ran.Rows...), tale.Rows) {
				t.Errorf("of %q by %v come the rows %v; want %v", text, steps, ran.Rows, tale.Rows)
			}
		}
		if len(met) != many {
			t.Errorf("of %q %d tales have steps, want %d", text, len(met), many)
		}
	}
}

func TestTaleOfByHand(t *testing.T) {
	const two, three, group = "write x 1; read y | write y 2; read x", "write x 1; write y 2; write z 3 | write z 4; write y 5; write x 6", "write x 1 in 1; read x in 1; write y 2 in 1 | write x 3; read y"
	for _, c := range []witnessCase{
		// No steps: ended just where there is nothing to do.
		{"-", "/012", ""}, {"- | - | -", "/012", ""}, {"wait", "", ""}, {"read x", "", ""}, {"write x 1", "", ""}, {two, "", ""},
		{"wait", "/012", "0"}, {"wait | - | wait", "", "0"}, {"wait | - | wait", "/012", "2 0"}, {"-", "/012", "0 10 1 11"},
		// All is done, and a step short of it: a note is left, or a Deed.
		{two, "10/03152", "0 1 0 1 10 11"}, {two, "10/03152", "0 1 0 1 11 10"}, {two, "", "0 1 0 1 10"}, {two, "", "0 1 0 1 11"}, {two, "", "0 1 0 10 11"}, {two, "", "0 1 1 10 11"}, {two, "", "0 1 0 1"}, {two, "13/03152", "0 10 0 1 1 11"}, {two, "50/03152", "1 11 1 0 0 10"}, {two, "53/03152", "1 11 0 10 1 0"}, {two, "", "1 11 0 10 1"},
		{"write x 1", "/0312", "0 10"}, {"write x 1", "", "0"}, {"write x 1", "", "10"}, {"write x 1", "", "10 0"}, {"write x 1; wait", "", "0 0 10"}, {"write x 1; wait", "/0312", "0 10 0"}, {"write x 1; wait; read y", "", "0 10 0"}, {"write x 1; wait; read y", "1/0312", "0 10 0 0"},
		// Some are passed over: too early, twice, of nobody, behind the end.
		{two, "10/03152", "10 0 0 0 11 1 1 1 10 11"}, {two, "10/03152", "0 1 0 1 11 10 0 1 10 11 2 12"}, {two, "13/03152", "-1 0 3 10 9 10 13 0 2 1 12 11 99 1"}, {"write x 1; wait; swap x 2", "3/03512", "0 0 0 10 10 0 0 0"}, {"write x 1; swap x 2", "3/03512", "0 0 10 0"}, {"write x 1; swap x 2", "", "0 0 10"},
		// Without reads, without writes: its From is empty, its Rows are the first three.
		{"write x 1 | write x 2", "/03412", "0 1 10 11"}, {"write x 1 | write x 2", "/04312", "0 1 11 10"}, {"read x | read z; read y", "021/012", "1 1 0"}, {"read x; wait", "0/012", "0 0"},
		// Each place's row in the order in which the writes came to it, whoever's they are.
		{three, "/038147265", "0 0 0 1 1 1 10 11 10 11 10 11"}, {three, "/083174265", "1 1 1 11 11 11 0 0 0 10 10 10"}, {three, "/038147256", "0 0 0 10 10 10 1 1 1 11 11 11"}, {three, "/038174265", "1 11 1 11 0 10 0 10 0 10 1 11"}, {three, "", "1 11 1 11 0 10 0 10 0 10 1"},
		// Swaps, and what is done in one go.
		{"swap x 1 | swap x 2", "04/04612", "0 1"}, {"swap x 1 | swap x 2", "60/06412", "1 0"}, {"swap x 1 | swap x 2", "", "1"}, {"swap x 1 | swap x 2", "60/06412", "1 1 0 0"}, {group, "35/036152", "0 1 11 1"}, {group, "31/063152", "1 1 11 0"}, {group, "35/063152", "1 11 0 1"}, {group, "31/036152", "1 1 0 11"}, {group, "", "1 11 0"}, {group, "", "1 0 1"},
		// Numbers that are no step at all.
		{two, "", "-1 3 9 13"}, {two, "10/03152", "-1 0 3 1 9 0 13 1 -9223372036854775808 10 9223372036854775807 11"}, {"-", "/012", "-9223372036854775808 9223372036854775807 -1 3 9 13"},
	} {
		w, steps := clerksNamed(c.work), stepWords(c.steps)
		got, is := impl.TaleOf(w, steps)
		if want := taleNamed(c.tale); is != (c.tale != "") || !sameTale(got, want) {
			t.Errorf("TaleOf of %q, %q, is %v, %v; want %q", c.work, c.steps, got, is, c.tale)
		}
		if mustTellTale(t, w, steps) {
			mustTellSteps(t, w, got)
		}
	}
}

// Ways to the end, each with one step left out, with one put in, and with two changed for each other.
func TestWitnessOfRunsOneOff(t *testing.T) {
	short, over, other := 0, 0, 0
	for _, c := range stepsByHand() {
		w, steps := clerksNamed(c.work), stepWords(c.steps)
		for i := range len(steps) + 1 {
			for _, s := range append([]int64{-1, 0, 1, 2, 3, 9, 10, 11, 12, 13}, far...) {
				more := slices.Insert(slices.Clone(steps), i, s)
				mustTellTale(t, w, more)
				// All that there is to do is done in as many steps, whatever way: with one more, one is passed over.
				if impl.Contiguous(w, more) {
					t.Errorf("of %q %v is Contiguous", c.work, more)
				}
				over++
			}
			if i == len(steps) {
				break
			}
			less := slices.Delete(slices.Clone(steps), i, i+1)
			if mustTellTale(t, w, less) || impl.Contiguous(w, less) {
				t.Errorf("of %q %v comes to the end: %v is left out", c.work, less, steps[i])
			}
			short++
			for j := range i {
				turned := slices.Clone(steps)
				turned[i], turned[j] = turned[j], turned[i]
				mustTellTale(t, w, turned)
				if impl.Contiguous(w, turned) && !sameList(turned, steps) {
					other++
				}
			}
		}
		if len(steps) > 0 {
			if _, is := impl.TaleOf(w, steps[:len(steps)-1]); is {
				t.Errorf("of %q by %v is told a tale: the last step is left out", c.work, steps)
			}
		}
	}
	if short == 0 || over == 0 || other == 0 {
		t.Errorf("%d are short, %d have one more, %d are other ways", short, over, other)
	}
}

func TestContiguousByHand(t *testing.T) {
	const two = "write x 1; read y | write y 1; read x"
	for _, c := range []struct {
		work, steps string
		want        bool
	}{
		{"-", "", true}, {"- | -", "", true}, {"-", "0", false}, {"-", "10", false}, {"-", "-1", false}, {"wait", "", false}, {"wait", "0", true}, {"wait", "0 0", false}, {"wait", "10 0", false}, {"wait | wait", "0 1", true}, {"wait | wait", "1 0", true}, {"wait | wait", "1", false}, {"wait | wait", "0 2 1", false},
		{"read x", "0", true}, {"read x", "", false}, {"swap x 1", "0", true}, {"swap x 1", "0 10", false}, {"write x 1", "0 10", true}, {"write x 1", "0", false}, {"write x 1", "10 0", false}, {"write x 1", "10 0 10", false}, {"write x 1", "0 0 10", false}, {"write x 1 in 1; read x in 1", "0", true}, {"write x 1 in 1; read x in 1", "0 0", false}, {"write x 1; wait", "0 10 0", true}, {"write x 1; wait", "0 0 10 0", false},
		// All ends; one left out; one put in that is passed over; one behind the end.
		{two, "0 1 0 1 10 11", true}, {two, "1 11 1 0 0 10", true}, {two, "0 0 0", false}, {two, "0 1 0 1 10", false}, {two, "1 0 1 10 11", false}, {two, "10 0 1 0 1 10 11", false}, {two, "0 1 0 0 1 10 11", false}, {two, "0 1 3 0 1 10 11", false}, {two, "0 1 0 1 10 11 -1", false}, {two, "0 1 0 1 10 11 0", false}, {two, "0 1 0 1 10 11 10", false}, {two, "9 0 1 0 1 10 11", false}, {two, "0 1 0 13 1 10 11", false}, {two, "0 1 0 1 10 9223372036854775807 11", false}, {two, "-9223372036854775808 0 1 0 1 10 11", false},
	} {
		w, steps := clerksNamed(c.work), stepWords(c.steps)
		if got := impl.Contiguous(w, steps); got != c.want {
			t.Errorf("Contiguous of %q, %q, is %v", c.work, c.steps, got)
		}
		mustTellTale(t, w, steps)
	}
}

// 40 steps are as many as there may be, whether they are passed over or not; where they stand does not count.
func TestHowManyStepsTellATale(t *testing.T) {
	for _, c := range stepsByHand() {
		w, steps := clerksNamed(c.work), stepWords(c.steps)
		for _, filler := range append([]int64{-1, 3, 9, 13}, far...) {
			for _, more := range []int{39, 40, 41, 60} {
				fill := slices.Repeat([]int64{filler}, more-len(steps))
				for _, all := range [][]int64{append(slices.Clone(fill), steps...), append(slices.Clone(steps), fill...)} {
					got, is := impl.TaleOf(w, all)
					if is != (more <= 40) || is && wordOfTale(got) != c.tale || !is && !sameTale(got, impl.Tale{}) {
						t.Errorf("TaleOf of %q, %d steps, is %v, %v", c.work, more, got, is)
					}
					if impl.Contiguous(w, all) {
						t.Errorf("of %q %v is Contiguous", c.work, all)
					}
				}
			}
		}
		// All of them the same one.
		for _, s := range []int64{0, 1, 10, -1} {
			for _, n := range []int{0, 1, 5, 40, 41} {
				mustTellTale(t, w, slices.Repeat([]int64{s}, n))
			}
		}
	}
	if _, is := impl.TaleOf(clerksNamed("-"), make([]int64, 40)); !is {
		t.Error("40 steps where there is nothing to do")
	}
	if _, is := impl.TaleOf(clerksNamed("-"), make([]int64, 41)); is {
		t.Error("41 steps where there is nothing to do")
	}
}

// Each tale of some small works, by its word: those that are told there are Faithful, all others are not.
func TestFaithfulByHand(t *testing.T) {
	for text, words := range map[string]string{
		"-": "/012", "wait | -": "/012", "read x": "0/012", "write x 1": "/0312", "write x 1; read x": "3/0312", "read x; write x 1": "0/0412", "swap x 1": "0/0412", "write x 1 | read x": "0/0312 3/0312", "write x 1 | write x 2": "/03412 /04312", "write x 1; write x 2": "/03412", "swap x 1 | swap x 2": "04/04612 60/06412",
		"write x 1; read y | write y 1; read x": "10/03152 13/03152 50/03152 53/03152", "write x 1; wait; read y | write y 1; wait; read x": "13/03152 50/03152 53/03152", "write x 1 in 1; read y in 1 | write y 1 in 2; read x in 2": "13/03152 50/03152", "write x 1; read x | write x 2": "3/03512 3/05312 5/03512", "write x 1; write y 1 | read y; read x": "10/03142 13/03142 43/03142", "write x 1 in 1; write y 1 in 1 | read x; read y": "01/03142 04/03142 34/03142",
	} {
		w, faithful, others := clerksNamed(text), []string{}, 0
		for n := range impl.TalesCount(w) {
			if tale, _ := impl.TaleAt(w, n); impl.Faithful(w, tale) {
				faithful = append(faithful, wordOfTale(tale))
			} else {
				others++
			}
		}
		if got := strings.Join(faithful, " "); got != words || int64(len(faithful)+others) != impl.TalesCount(w) {
			t.Errorf("Faithful of %q are %s, want %s", text, got, words)
		}
		mustTellStepsForAll(t, w)
	}
}

// mustTellNoSteps is of what is not SlowOk.
func mustTellNoSteps(t *testing.T, w [][]impl.Deed, tale impl.Tale) {
	t.Helper()
	if steps, is := impl.StepsFor(w, tale); is || len(steps) != 0 || impl.Faithful(w, tale) {
		t.Errorf("StepsFor of %d clerks, %d and %d numbers, is %v, %v; Faithful is %v", len(w), len(tale.From), len(tale.Rows), steps, is, impl.Faithful(w, tale))
	}
}

// mustTellNoTale is of steps that do not come to the end, or of what is no work.
func mustTellNoTale(t *testing.T, w [][]impl.Deed, steps []int64) {
	t.Helper()
	if tale, is := impl.TaleOf(w, steps); is || !sameTale(tale, impl.Tale{}) || impl.Contiguous(w, steps) {
		t.Errorf("TaleOf of %d clerks, %d steps, is %v, %v; Contiguous is %v", len(w), len(steps), tale, is, impl.Contiguous(w, steps))
	}
}

// These are TaleOk: some places run back, some lines go round.
func TestNoStepsForWhatIsNotSlowOk(t *testing.T) {
	for _, c := range []struct{ work, tales string }{
		{"write x 1; read x", "0/0312"}, {"read x; write x 1", "4/0412"}, {"write x 1; write x 2", "/04312"}, {"swap x 1", "4/0412"}, {"swap x 1 | swap x 2", "00/04612 64/04612 04/06412 60/04612"}, {"write x 1; wait; read y | write y 1; wait; read x", "10/03152"}, {"write x 1 in 1; read y in 1 | write y 1 in 2; read x in 2", "10/03152 53/03152"},
		{"write x 1; read x | write x 2", "0/03512 5/05312"}, {"write x 1; write y 1 | read y; read x", "40/03142"}, {"read x; write y 1 | read y; write x 1", "64/06142"}, {"write x 1; write y 2 | write y 1; write x 2", "/0631452"}, {"write x 1 in 1; write x 2 in 1 | read x", "3/03412 0/04312"}, {"write x 1 in 1; write y 1 in 1 | read x in 2; read y in 2", "04/03142 31/03142"},
	} {
		w := clerksNamed(c.work)
		for word := range strings.FieldsSeq(c.tales) {
			if !impl.TaleOk(w, taleNamed(word)) {
				t.Errorf("of %q %s is no tale", c.work, word)
			}
			mustTellNoSteps(t, w, taleNamed(word))
			mustTellSteps(t, w, taleNamed(word))
		}
	}
}

// Tales whose source, whose rows, and both of which are one off: shorter, longer, of other numbers, turned.
func TestStepsForTalesOneOff(t *testing.T) {
	for _, text := range []string{"-", "read y", "wait; write y 1", "write x 1; read x | write x 2", "swap x 1 | swap x 2", "write x 1; read y | write y 1; read x"} {
		w := clerksNamed(text)
		others := append([]int64{-1, 12, 1<<32 + 3}, far...)
		for n := range int64(len(eventsTold(w))) + 1 {
			others = append(others, n)
		}
		for _, tale := range someTales(w) {
			sources := oneOff(tale.From, others)
			for _, from := range sources {
				mustTellSteps(t, w, impl.Tale{From: from, Rows: tale.Rows})
			}
			for i, rows := range oneOff(tale.Rows, others) {
				mustTellSteps(t, w, impl.Tale{From: tale.From, Rows: rows})
				mustTellSteps(t, w, impl.Tale{From: sources[i%len(sources)], Rows: rows})
				if len(rows) != len(tale.Rows) {
					mustTellNoSteps(t, w, impl.Tale{From: tale.From, Rows: rows})
				}
			}
			for _, wrong := range []impl.Tale{{}, {From: tale.Rows, Rows: tale.From}, {From: tale.From}, {From: tale.Rows, Rows: tale.Rows}, {From: tale.From, Rows: tale.From}} {
				mustTellNoSteps(t, w, wrong)
			}
		}
	}
}

func TestWitnessOfWhatIsNoWork(t *testing.T) {
	works := wrongWorks()
	for _, text := range rightWorks() {
		for c, list := range clerksNamed(text) {
			for i := range list {
				w := clerksNamed(text)
				w[c][i].Kind = 5
				works = append(works, w)
			}
		}
	}
	for _, w := range works {
		for _, steps := range [][]int64{nil, {}, {0}, {0, 10}, {0, 10, 1, 11, 2, 12}, make([]int64, 40), make([]int64, 41), far} {
			mustTellNoTale(t, w, steps)
			mustTellTale(t, w, steps)
		}
		for _, word := range []string{"/", "/012", "0/012", "/0312", "0/0312", "00/012", "00000/0812", "0/04612", "111/0132", "0000/0468912", "/012345678", "012/"} {
			mustTellNoSteps(t, w, taleNamed(word))
		}
		for _, tale := range handedTales() {
			mustTellNoSteps(t, w, tale)
		}
	}
}

func TestWitnessOfTheGreatestWorks(t *testing.T) {
	begin, met := time.Now(), witnessed{}
	for _, text := range append(greatWorks(), manyTales()...) {
		w := clerksNamed(text)
		met.add(mustTellStepsForAll(t, w))
		// A Deed more, or an event, and it is none.
		tale, _ := impl.TaleAt(w, 0)
		w[0] = append(w[0], clerkOf("wait", "wait", "wait", "wait", "read x")...)
		mustTellNoSteps(t, w, tale)
		mustTellNoTale(t, w, nil)
	}
	mustHaveWitnessed(t, met)
	if spent := time.Since(begin); met.longest != 18 || spent > time.Minute {
		t.Errorf("at most %d steps, in %v", met.longest, spent)
	}
}

func TestWitnessOfVeryLongLists(t *testing.T) {
	const long = 1 << 20
	zeros, clerks := make([]int64, long), make([][]impl.Deed, long)
	for _, w := range [][][]impl.Deed{clerks, workOf(make([]impl.Deed, long)), workOf(nil, make([]impl.Deed, long)), clerks[:4]} {
		for _, steps := range [][]int64{nil, zeros[:1], zeros[:40], zeros} {
			mustTellNoTale(t, w, steps)
		}
		mustTellNoSteps(t, w, impl.Tale{})
		mustTellNoSteps(t, w, impl.Tale{Rows: []int64{0, 1, 2}})
		mustTellNoSteps(t, w, impl.Tale{From: zeros, Rows: zeros})
	}
	for _, c := range stepsByHand() {
		w, tale, steps := clerksNamed(c.work), taleNamed(c.tale), stepWords(c.steps)
		mustTellNoTale(t, w, append(steps, zeros...))
		mustTellNoTale(t, w, append(slices.Clone(zeros), steps...))
		for _, n := range []int{1, 9, 12, 13, 64, 257, long} {
			more := impl.Tale{From: append(copied(tale.From), zeros[:n]...), Rows: append(copied(tale.Rows), zeros[:n]...)}
			for _, wrong := range []impl.Tale{more, {From: tale.From, Rows: more.Rows}, {From: more.From, Rows: tale.Rows}} {
				mustTellNoSteps(t, w, wrong)
			}
		}
	}
	if met := mustTellStepsForAll(t, clerks[:3]); met.told != 1 {
		t.Errorf("of three clerks without Deeds: %v", met)
	}
}

// A tale of one work is handed beside another one.
func TestStepsForOfAnotherWork(t *testing.T) {
	texts := []string{"-", "wait", "read x", "read y", "write x 1", "wait; write x 1", "swap x 1", "write x 1; read x", "write x 1 | read x", "write x 1; read y | write y 1; read x", "write x 1; wait; read y | write y 1; wait; read x", "write x 1 in 1; read y in 1 | write y 1 in 2; read x in 2", "swap x 1 | swap x 2", "read x; write x 1 | read x; write x 2"}
	own, other := 0, 0
	for _, one := range texts {
		for _, two := range texts {
			for n := range impl.TalesCount(clerksNamed(two)) {
				tale, _ := impl.TaleAt(clerksNamed(two), n)
				told := mustTellSteps(t, clerksNamed(one), tale).told
				if one == two {
					own += told
				} else {
					other += told
				}
			}
		}
	}
	if own == 0 || other == 0 {
		t.Errorf("%d tales of its own work have steps, %d of another one", own, other)
	}
}

// The same work and tale tell the same steps however often they are asked; they are asked by what they are now.
func TestWitnessAgainAndAgain(t *testing.T) {
	for _, c := range stepsByHand() {
		w, tale, steps := clerksNamed(c.work), taleNamed(c.tale), stepWords(c.steps)
		for range 20 {
			got, is := impl.StepsFor(w, tale)
			told, ended := impl.TaleOf(w, steps)
			if !is || !sameList(got, steps) || !ended || !sameTale(told, tale) {
				t.Fatalf("of %q: StepsFor is %v, %v, TaleOf %v, %v", c.work, got, is, told, ended)
			}
		}
	}
	w := clerksNamed("write x 1; read y | write y 1; read x")
	tale, steps := taleNamed("10/03152"), stepWords("0 1 0 1 10 11")
	for _, c := range []witnessCase{{"", "13/03152", "0 10 0 1 11 1"}, {"", "50/03152", "1 11 0 0 1 10"}, {"", "10/03152", "0 0 1 11 1 10"}} {
		now := taleNamed(c.tale)
		copy(tale.From, now.From)
		copy(steps, stepWords(c.steps))
		got, is := impl.StepsFor(w, tale)
		told, ended := impl.TaleOf(w, steps)
		if !is || !sameList(got, steps) || !ended || !sameTale(told, now) {
			t.Errorf("of %s: StepsFor is %v, %v, TaleOf %v, %v", c.tale, got, is, told, ended)
		}
	}
	// In one go each, one of them sees what the other one wrote.
	for c := range w {
		w[c][0].Group, w[c][1].Group = int64(c+1), int64(c+1)
	}
	mustTellNoSteps(t, w, tale)
	mustTellTale(t, w, steps)
	w[0][0].Value = 10
	mustTellNoTale(t, w, steps)
}

func askedForSteps(t *testing.T) asking {
	return func(w [][]impl.Deed, list []impl.Event, tale impl.Tale) {
		mustTellSteps(t, w, tale)
		steps, _ := impl.StepsFor(w, tale)
		spoil(steps)
	}
}

func TestStepsForLeavesItsArgumentsAlone(t *testing.T) { mustLeaveTalesAlone(t, askedForSteps(t)) }

func TestStepsForOfListsInOneMemory(t *testing.T) { mustTakeOneMemory(t, askedForSteps(t)) }

func TestStepsForIsNewMemory(t *testing.T) {
	cases := append(stepsByHand(), witnessCase{work: "write x 1", tale: "/0132"}, witnessCase{work: "read x", tale: "/"})
	for _, c := range cases {
		l, tale := laid(clerksNamed(c.work)), taleNamed(c.tale)
		before, was := l.copied(), copiedTale(tale)
		one, _ := impl.StepsFor(l.given, tale)
		other, _ := impl.StepsFor(l.given, tale)
		want := copied(other)
		others := append(spansOfWork(l.given), spanOf(l.floor), spanOf(l.clerks), spanOf(tale.From), spanOf(tale.Rows), spanOf(other))
		mustLieApart(t, []span{spanOf(one)}, others, c)
		spoil(one)
		if !sameList(other, want) || !sameTale(tale, was) || !l.isAs(before) {
			t.Errorf("StepsFor of %q, %s, shares memory", c.work, c.tale)
		}
		// What was handed in is spoilt, and the answer stays.
		spoil(tale.From)
		spoil(tale.Rows)
		for _, list := range l.given {
			for i := range list {
				list[i] = mark
			}
		}
		if !sameList(other, want) {
			t.Errorf("StepsFor of %q, %s, lies in the memory of its arguments", c.work, c.tale)
		}
	}
}

func TestTaleOfIsNewMemory(t *testing.T) {
	spansOfTale := func(tale impl.Tale) []span { return []span{spanOf(tale.From), spanOf(tale.Rows)} }
	cases := append(stepsByHand(), witnessCase{work: "write x 1", steps: "0"}, witnessCase{work: "-", steps: "0 10"}, witnessCase{work: "read x | read y", steps: strings.Repeat("0 ", 41)})
	for _, c := range cases {
		l := laid(clerksNamed(c.work))
		steps, room := roomy(stepWords(c.steps))
		before, was := l.copied(), copied(room)
		one, _ := impl.TaleOf(l.given, steps)
		other, _ := impl.TaleOf(l.given, steps)
		impl.Contiguous(l.given, steps)
		want := copiedTale(other)
		others := append(spansOfWork(l.given), spanOf(l.floor), spanOf(l.clerks), spanOf(room))
		mustLieApart(t, spansOfTale(one), append(others, spansOfTale(other)...), c)
		spoil(one.From)
		if !sameList(one.Rows, want.Rows) {
			t.Errorf("TaleOf of %q, %s: the rows share memory with the source", c.work, c.steps)
		}
		spoil(one.Rows)
		if !sameTale(other, want) || !sameList(room, was) || !l.isAs(before) {
			t.Errorf("TaleOf of %q, %s, shares memory", c.work, c.steps)
		}
		// What was handed in is spoilt, and the answer stays.
		spoil(steps)
		for _, list := range l.given {
			for i := range list {
				list[i] = mark
			}
		}
		if !sameTale(other, want) {
			t.Errorf("TaleOf of %q, %s, lies in the memory of its arguments", c.work, c.steps)
		}
	}
}

func TestTaleOfLeavesItsArgumentsAlone(t *testing.T) {
	for _, w := range append(memoryWorks(), wrongWorks()...) {
		l := laid(w)
		before := l.copied()
		for _, list := range [][]int64{nil, {0}, {0, 0, 10, 10, 1, 1, 11, 2, 2, 12, 0, 1, 2}, {0, 10, 0, 10, 0, 10, 0, 10, 0, 10, 1, 11, 1, 11, 1, 11, 1, 11, 2, 12, 2, 12, 2, 12}, make([]int64, 41)} {
			steps, room := roomy(list)
			was := copied(room)
			mustTellTale(t, l.given, steps)
			if !sameList(room, was) || !l.isAs(before) {
				t.Errorf("of %v and %v is left %v and %v", w, list, l.clerks, room)
			}
		}
	}
}

// One list may be several clerks'.
func TestWitnessOfOneListForAllClerks(t *testing.T) {
	for _, list := range [][]impl.Deed{{}, clerkOf("read x"), clerkOf("write x 1", "read x"), clerkOf("write x 1", "wait", "read y"), clerkOf("swap x 1"), clerkOf("wait", "write y 2", "wait", "read y")} {
		w := workOf(list, list, list)
		before := copiedWork(w)
		if met := mustTellStepsForAll(t, w); met.told == 0 || !sameWork(w, before) {
			t.Errorf("of %v is left %v, with %v", before, w, met)
		}
	}
}
