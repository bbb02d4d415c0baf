package tests

import (
	"runtime"
	"slices"
	"strings"
	"sync"
	"testing"
	"time"

	"loop.example/g00411/impl"
)

func sameLists(a [][]int64, b [][]int64) bool { return slices.EqualFunc(a, b, sameList) }

// telling counts works: all, those of which several outcomes are told, those of which some are told slowly alone, and those that are Stronger though some tale is not StrictOk that is SlowOk.
type telling struct{ works, several, slowly, alike int }

func (m *telling) add(more telling) {
	m.works, m.several, m.slowly, m.alike = m.works+more.works, m.several+more.several, m.slowly+more.slowly, m.alike+more.alike
}

// tellers are outcomes that tales tell, by how many tell each of them.
type tellers map[listKey][]int64

func (l tellers) tell(one []int64) { l[keyOf(one)] = append(l[keyOf(one)], 1) }

func (l tellers) tales() int {
	n := 0
	for _, each := range l {
		n += len(each)
	}
	return n
}

// toldByTales are the outcomes of all tales by chapters 10, 12 and 13.
func toldByTales(w [][]impl.Deed) (slow tellers, strict tellers) {
	slow, strict = tellers{}, tellers{}
	for n := range max(impl.TalesCount(w), 0) {
		tale, _ := impl.TaleAt(w, n)
		if impl.SlowOk(w, tale) {
			slow.tell(impl.OutcomeOf(w, tale))
		}
		if impl.StrictOk(w, tale) {
			strict.tell(impl.OutcomeOf(w, tale))
		}
	}
	return slow, strict
}

// toldByClerks asks none of the program's functions: of each tale that the test tells, the clerks of the test try to do it, with notes and without.
func toldByClerks(w [][]impl.Deed) (slow tellers, strict tellers) {
	slow, strict = tellers{}, tellers{}
	if !isWork(w) {
		return slow, strict
	}
	s := strictlyOf(w)
	for n := range talesCounted(s.list) {
		tale := taleTold(s.list, n)
		if s.canBeDone(tale) {
			slow.tell(outcomeTold(s.list, tale))
		}
		if s.canBeDoneAtOnce(tale) {
			strict.tell(outcomeTold(s.list, tale))
		}
	}
	return slow, strict
}

// told is what chapter 17 answers of a work, or of what is none.
type told struct {
	w            [][]impl.Deed
	slow, strict [][]int64
}

func toldOf(w [][]impl.Deed) told {
	return told{w: w, slow: impl.SlowTold(w), strict: impl.StrictTold(w)}
}

// mustBeOf holds it against the outcomes of these tales, and Stronger against both lists.
func (l told) mustBeOf(t *testing.T, slow tellers, strict tellers) telling {
	t.Helper()
	mustBeJust(t, "SlowTold", l.w, l.slow, slow)
	mustBeJust(t, "StrictTold", l.w, l.strict, strict)
	met, is := telling{}, isWork(l.w)
	if is != (len(l.slow) > 0) || is != (len(l.strict) > 0) {
		t.Fatalf("of %v is told %v and %v", l.w, l.slow, l.strict)
	}
	stronger := is
	for _, one := range l.slow {
		stronger = stronger && isIn(l.strict, one)
	}
	if got := impl.Stronger(l.w); got != stronger {
		t.Fatalf("Stronger(%v) = %v; SlowTold %v, StrictTold %v", l.w, got, l.slow, l.strict)
	}
	if !is {
		return met
	}
	met.works = 1
	if len(l.slow) > 1 {
		met.several = 1
	}
	if !stronger {
		met.slowly = 1
	} else if slow.tales() > strict.tales() {
		met.alike = 1
	}
	return met
}

// mustBeEnds is promise 17, list for list.
func (l told) mustBeEnds(t *testing.T) {
	t.Helper()
	if ends := impl.Ends(l.w); !sameLists(ends, l.slow) {
		t.Fatalf("of %v are Ends %v, and SlowTold %v", l.w, ends, l.slow)
	}
	if ends := impl.QuickEnds(l.w); !sameLists(ends, l.strict) {
		t.Fatalf("of %v are QuickEnds %v, and StrictTold %v", l.w, ends, l.strict)
	}
}

// mustTell asks all of chapter 17 and promise 17.
func mustTell(t *testing.T, w [][]impl.Deed) telling {
	t.Helper()
	l := toldOf(w)
	l.mustBeEnds(t)
	slow, strict := toldByTales(w)
	return l.mustBeOf(t, slow, strict)
}

// mustHaveToldEach wants works of each sort: the promise would say little of the others.
func mustHaveToldEach(t *testing.T, met telling) {
	t.Helper()
	if met.slowly == 0 || met.slowly >= met.several || met.several >= met.works {
		t.Errorf("met: %v", met)
	}
}

// Promise 17: what comes of all ways is what all tales tell, of two clerks and of three, and of what is no work.
func TestTwoWaysToTellIt(t *testing.T) {
	slowly, alike := 0, 0
	for _, w := range slices.Concat(endedWorks(), someWorks(), wrongWorks()) {
		l := toldOf(w)
		l.mustBeEnds(t)
		if len(l.slow) > len(l.strict) {
			slowly++
		} else if isWork(w) {
			alike++
		}
	}
	if slowly < 20 || alike < 20 {
		t.Errorf("%d works have more that is SlowTold, %d have not", slowly, alike)
	}
}

// Promise 17: two clerks, each with all that it may do first and last.
func TestTwoWaysToTellTwoClerks(t *testing.T) {
	met := telling{}
	_, all := twoSorts()
	for _, one := range all {
		for _, two := range all {
			met.add(mustTell(t, workOf(one, two)))
		}
	}
	few := clerksOf(clerkOf("read x", "write x 1", "swap y 2", "write y 3", "wait"), 2)
	for _, one := range few {
		for _, two := range few {
			met.add(mustTell(t, workOf(one, revalued(workOf(two))[0])))
		}
	}
	mustHaveToldEach(t, met)
}

// Promise 17: three clerks.
func TestTwoWaysToTellThreeClerks(t *testing.T) {
	met := telling{}
	some := [][]impl.Deed{nil, clerkOf("read x"), clerkOf("swap x 2"), clerkOf("write x 1", "read y"), clerkOf("write y 2", "wait", "read x"), clerkOf("read y", "read x"), clerkOf("write y 3", "write x 4")}
	for _, one := range append(slices.Clone(some), clerkOf("write x 1 in 1", "read y in 1"), clerkOf("write x 5 in 1", "write y 6 in 1")) {
		for _, two := range append(slices.Clone(some), clerkOf("write y 7", "read x in 2")) {
			for _, three := range some {
				met.add(mustTell(t, workOf(one, two, three)))
			}
		}
	}
	mustHaveToldEach(t, met)
}

// Promise 17: works of all Kinds, Groups and lengths, and some that are none.
func TestTwoWaysToTellManyWorks(t *testing.T) {
	met := telling{}
	for i, one := range mixedClerks() {
		for j, two := range mixedClerks() {
			if (i+j)%3 == 0 {
				met.add(mustTell(t, workOf(one, two)))
				met.add(mustTell(t, workOf(two, clerkOf("read z"), one)))
			}
		}
	}
	for d := range shownDeeds {
		met.add(mustTell(t, workOf(clerkOf("write x 1", "read y"), append(clerkOf("write y 1"), d))))
	}
	for _, text := range rightWorks() {
		met.add(mustTell(t, clerksNamed(text)))
	}
	mustHaveToldEach(t, met)
}

func TestToldOfOneClerk(t *testing.T) {
	met := telling{}
	some := append(clerksOf(clerkOf("read x", "write x 1", "swap x 2", "wait", "write y 3"), 3), clerksOf(clerkOf("read x in 1", "write x 1 in 1", "read x", "write x 2 in 2"), 3)...)
	for _, one := range some {
		met.add(mustTell(t, workOf(one)))
		met.add(mustTell(t, workOf(nil, one, nil)))
	}
	// There is nobody to come in between.
	if met.works == 0 || met.several+met.slowly > 0 {
		t.Errorf("met: %v", met)
	}
}

// What is told is what can be done, by none of the program's own words.
func TestToldIsWhatClerksCanDo(t *testing.T) {
	met, works := telling{}, [][][]impl.Deed{}
	for _, text := range slices.Concat(walkedWorks(), rightWorks()) {
		works = append(works, clerksNamed(text))
	}
	plain, all := twoSorts()
	for _, one := range all {
		for _, two := range plain {
			works = append(works, workOf(one, two))
		}
	}
	for _, w := range append(works, wrongWorks()...) {
		slow, strict := toldByClerks(w)
		met.add(toldOf(w).mustBeOf(t, slow, strict))
	}
	mustHaveToldEach(t, met)
}

// The outcomes of all ways are the outcomes of all tales, as they were told by hand.
func TestToldByHand(t *testing.T) {
	more := []byHand{
		// Who waits sees what stands on the board; both must, that nothing is slow.
		{"write x 1; read y | write y 1; wait; read x", "00110 01110 10110 11110", "01110 10110 11110"}, {"write x 1; wait; read y | write y 1; wait; read x | -", "01110 10110 11110", "01110 10110 11110"},
		// Each place by itself is no slower than the board.
		{"write x 1; read y | write x 2; read y", "00100 00200", "00100 00200"}, {"write x 1; read x | write x 2; read x", "11100 12100 12200 22200", "11100 12100 12200 22200"},
		// The same Values from before: another tale tells the same outcome.
		{"write x 5 in 1; write x 5; read y | write y 5 in 2; write y 5; read x", "05550 50550 55550", "05550 50550 55550"},
	}
	for _, c := range append(endsByHand(), more...) {
		w := clerksNamed(c.work)
		if got := endsText(impl.SlowTold(w)); got != c.ends {
			t.Errorf("SlowTold of %q is %s, want %s", c.work, got, c.ends)
		}
		if got := endsText(impl.StrictTold(w)); got != c.quick {
			t.Errorf("StrictTold of %q is %s, want %s", c.work, got, c.quick)
		}
		if got := impl.Stronger(w); got != (c.ends == c.quick) {
			t.Errorf("Stronger of %q is %v", c.work, got)
		}
		mustTell(t, w)
	}
}

// Where all is waited for, what is SlowTold is what was StrictTold ahead of that.
func TestToldOfWhatIsWaited(t *testing.T) {
	more, works := 0, 0
	plain, _ := twoSorts()
	for _, one := range plain {
		for _, two := range plain {
			w := workOf(one, two)
			if slices.ContainsFunc(slices.Concat(w...), func(d impl.Deed) bool { return d.Group != 0 }) {
				continue
			}
			works++
			waited, strict := impl.Waited(w), impl.StrictTold(w)
			if !sameLists(strict, impl.SlowTold(waited)) || !sameLists(strict, impl.StrictTold(waited)) || !impl.Stronger(waited) {
				t.Errorf("of %v is StrictTold %v, and waited %v and %v", w, strict, impl.SlowTold(waited), impl.StrictTold(waited))
			}
			if len(impl.SlowTold(w)) > len(strict) {
				more++
				if impl.Stronger(w) {
					t.Errorf("%v is Stronger", w)
				}
			}
		}
	}
	if more == 0 || more == works {
		t.Errorf("of %d works %d have more that is SlowTold", works, more)
	}
}

// manyTales are works with as many tales as a work may have, or with many, of which few outcomes are told.
func manyTales() []string {
	return []string{
		"write x 1; write x 2; write x 3; write x 4; write x 5 | write x 6", "write x 1; wait; write x 2; wait | write x 3; wait; write x 4; wait | write x 5; wait; write x 6; wait", "write x 1; write x 2; write x 3; write x 4; write x 5 | wait; wait; read x; wait; wait | wait; wait",
		"write x 1; write x 2; write x 3 | write x 4; write x 5; read x", "read x; read x | write x 1; write x 2 | write x 3; write x 4", "swap x 1 | swap x 2 | swap x 3", "read x; write x 1 | read x; write x 3 | read x; write x 5", "swap x 5; swap x 5 | swap x 5",
	}
}

func TestToldOfTheGreatestWorks(t *testing.T) {
	met, most := telling{}, int64(0)
	for _, text := range greatWorks() {
		w := clerksNamed(text)
		if len(w) != 3 || len(slices.Concat(w...)) != impl.MaxDeeds || impl.EventsIn(w) != impl.MaxEvents {
			t.Errorf("%q is not as great as it may be", text)
		}
		met.add(mustTell(t, w))
		// An event or a Deed more, and it is none.
		for _, d := range clerkOf("read x", "wait") {
			for c := range w {
				more := copiedWork(w)
				more[c] = append(more[c], d)
				mustTellNothing(t, more)
			}
		}
	}
	for _, text := range manyTales() {
		w := clerksNamed(text)
		mustTell(t, w)
		most = max(most, impl.TalesCount(w))
	}
	if met.slowly < 2 || met.several != met.works || most != 720 {
		t.Errorf("met: %v, of at most %d tales", met, most)
	}
}

func mustTellNothing(t *testing.T, w [][]impl.Deed) {
	t.Helper()
	mustTell(t, w)
	if slow, strict := impl.SlowTold(w), impl.StrictTold(w); len(slow) != 0 || len(strict) != 0 || impl.Stronger(w) {
		t.Errorf("of %v, which is no work, is told %v and %v; it is Stronger: %v", w, slow, strict, impl.Stronger(w))
	}
}

func TestToldOfWhatIsNoWork(t *testing.T) {
	for _, w := range wrongWorks() {
		mustTellNothing(t, w)
	}
	for _, text := range rightWorks() {
		for c, list := range clerksNamed(text) {
			for i := range list {
				w := clerksNamed(text)
				w[c][i].Kind = 5
				mustTellNothing(t, w)
				w[c][i] = impl.Deed{Kind: impl.DdWrite, Place: 3, Value: 1}
				mustTellNothing(t, w)
			}
		}
	}
	const long = 1 << 20
	mustTellNothing(t, make([][]impl.Deed, long))
	mustTellNothing(t, workOf(make([]impl.Deed, long)))
	mustTellNothing(t, workOf(clerkOf("read x"), make([]impl.Deed, long), make([]impl.Deed, long)))
}

// Several tales tell one outcome, which is told once; and one tale alone may tell it, the first or the last of all.
func TestToldOnceHoweverManyTellIt(t *testing.T) {
	lonely, often, first, last := 0, 0, 0, 0
	for _, text := range append(manyTales(), "write x 1; write x 2; write x 3", "write x 1 | read x", "read x | write x 1", "write x 5 | write x 5; read x", "write x 1; read x", "swap x 5 | swap x 5", "read x | write x 1 | read x; read x") {
		w := clerksNamed(text)
		mustTell(t, w)
		slow, _ := toldByTales(w)
		for _, each := range slow {
			if len(each) == 1 {
				lonely++
			} else {
				often++
			}
		}
		for at, n := range []int64{0, impl.TalesCount(w) - 1} {
			tale, _ := impl.TaleAt(w, n)
			if alone := impl.SlowOk(w, tale) && len(slow[keyOf(impl.OutcomeOf(w, tale))]) == 1; alone && at == 0 {
				first++
			} else if alone {
				last++
			}
		}
	}
	if lonely == 0 || often == 0 || first == 0 || last == 0 {
		t.Errorf("told once %d, often %d, by the first tale alone %d, by the last %d", lonely, often, first, last)
	}
}

func TestStrongerByHand(t *testing.T) {
	for _, c := range []struct {
		work string
		want bool
	}{
		// One clerk, or none that has a Deed.
		{"-", true}, {"- | - | -", true}, {"wait", true}, {"wait; wait | - | wait", true}, {"read x", true}, {"write x 1; read x; read y", true}, {"write x 1; read y; read x; write y 2; read y", true},
		// Both write and look: who waits, swaps or does it in one go sees the other one's; who does so alone is not enough.
		{"write x 1; read y | write y 1; read x", false}, {"write x 1; wait; read y | write y 1; read x", false}, {"write x 1; read y | write y 1; wait; read x", false}, {"write x 1; wait; read y | write y 1; wait; read x", true}, {"swap x 1; read y | swap y 1; read x", true}, {"swap x 1; read y | write y 1; read x", false}, {"write x 1 in 1; read y in 1 | write y 1 in 2; read x in 2", true}, {"write x 1 in 1; read y in 1 | write y 1; read x", false}, {"write x 1 in 1; read y | write y 1 in 2; read x", true}, {"write x 1; read y in 1 | write y 1; read x in 2", true},
		{"write x 1; read y | write y 1; read x | -", false}, {"- | write x 1; read y | write y 1; read x", false}, {"write z 1; read x | - | write x 9; read z", false}, {"write x 1; read y | write y 1; read z | write z 1; read x", false}, {"write x 1; wait; read y | write y 1; wait; read z | write z 1; wait; read x", true}, {"write x 1; wait; read y | write y 1; wait; read z | write z 1; read x", false},
		// It is not the same place both look at, or one of them writes nothing.
		{"write x 1; read x | write y 1; read y", true}, {"write x 1; read y | write x 2; read y", true}, {"write x 1; read x | write x 2; read x", true}, {"write x 1; read y | read x; read y", true}, {"write x 1; write y 1 | read y; read x", true}, {"read x; write y 1 | read y; write x 1", true}, {"write x 1 | read x; write y 1 | read y; read x", true},
		// One sees its own note first, and then not the other one's.
		{"write x 1; read x; read y | write y 1; read y; read x", false}, {"write x 1; read x; read y | read y; read x", true}, {"write x 1; read x; read y | write y 1; wait; read x", false},
		// All that is told slowly is told strictly, too, though not by the same tales: what was there ahead has the same Value.
		{"write x 5 in 1; write x 5; read y | write y 5 in 2; write y 5; read x", true}, {"write x 5 in 1; write x 6; read y | write y 5 in 2; write y 5; read x", false}, {"write x 5 in 1; write x 6; read y | write y 5 in 2; write y 6; read x", false},
	} {
		w := clerksNamed(c.work)
		if got := impl.Stronger(w); got != c.want {
			t.Errorf("Stronger of %q is %v", c.work, got)
		}
		mustTell(t, w)
	}
	if met := mustTell(t, clerksNamed("write x 5 in 1; write x 5; read y | write y 5 in 2; write y 5; read x")); met.alike != 1 {
		t.Errorf("met: %v", met)
	}
}

// Of one clerk, of what is Waited, and of reads and swaps alone, nothing is slow (promise 13).
func TestWhatIsAlwaysStronger(t *testing.T) {
	works := [][][]impl.Deed{}
	for _, one := range clerksOf(clerkOf("read x", "write x 1", "swap y 2", "write y 3"), 3) {
		works = append(works, workOf(one), workOf(nil, one))
	}
	for _, text := range append(walkedWorks(), rightWorks()...) {
		works = append(works, impl.Waited(clerksNamed(text)))
	}
	some := clerksOf(clerkOf("read x", "swap x 1", "swap y 2"), 2)
	for i, one := range some {
		for _, two := range some[i:] {
			works = append(works, workOf(one, two))
		}
	}
	right := 0
	for _, w := range works {
		if impl.Stronger(w) != isWork(w) {
			t.Errorf("Stronger(%v) = %v", w, impl.Stronger(w))
		}
		if isWork(w) {
			right++
		}
	}
	if right < 100 {
		t.Errorf("%d works were asked", right)
	}
}

// hurriedWorks have many tales, or many outcomes, so that an order of goroutines that were to be seen would be seen in them.
func hurriedWorks() []string {
	return append(manyTales(), "-", "wait | wait", "write x 1; read y | write y 1; read x", "write x 1 | write x 2 | read x; read x", "write x 1; read y | write y 1; read z | write z 1; read x")
}

func TestToldAgainAndAgain(t *testing.T) {
	for _, text := range hurriedWorks() {
		w := clerksNamed(text)
		l, stronger := toldOf(w), impl.Stronger(w)
		for range 8 {
			if got := impl.SlowTold(w); !sameLists(got, l.slow) {
				t.Fatalf("SlowTold of %q is %v, and then %v", text, l.slow, got)
			}
		}
		if got := impl.StrictTold(w); !sameLists(got, l.strict) || impl.Stronger(w) != stronger {
			t.Fatalf("StrictTold of %q is %v, and then %v; Stronger is %v, and then %v", text, l.strict, got, stronger, impl.Stronger(w))
		}
	}
	// It is asked of what the work is now.
	w := clerksNamed("write x 1; read y | write y 1; read x")
	before := impl.SlowTold(w)
	w[0][0].Value = 9
	mustTell(t, w)
	if got := impl.SlowTold(w); sameLists(got, before) || !strings.Contains(endsText(got), "9") {
		t.Errorf("SlowTold(%v) = %v", w, got)
	}
	w[0][0].Value = 10
	mustTellNothing(t, w)
}

// However many goroutines may run at one time, the answer is the same.
func TestToldHoweverManyProcessors(t *testing.T) {
	defer runtime.GOMAXPROCS(runtime.GOMAXPROCS(0))
	for _, text := range hurriedWorks() {
		w := clerksNamed(text)
		want := impl.Ends(w)
		for _, n := range []int{1, 2, 3, 8, 64} {
			runtime.GOMAXPROCS(n)
			for range 2 {
				if got := impl.SlowTold(w); !sameLists(got, want) {
					t.Fatalf("at %d processors SlowTold of %q is %v, want %v", n, text, got, want)
				}
			}
		}
	}
}

// Many may ask of one work at the same time.
func TestToldToManyAtOnce(t *testing.T) {
	for _, text := range hurriedWorks() {
		l := laid(clerksNamed(text))
		before := l.copied()
		ends, stronger := impl.Ends(l.given), impl.Stronger(l.given)
		right := [8]bool{}
		var all sync.WaitGroup
		for i := range right {
			all.Go(func() {
				right[i] = sameLists(impl.SlowTold(l.given), ends) && impl.Stronger(l.given) == stronger
			})
		}
		all.Wait()
		if slices.Contains(right[:], false) || !l.isAs(before) {
			t.Errorf("of %q was told, at once: %v", text, right)
		}
	}
}

// runningIn has the functions of the program in which a goroutine is right now; a closure of SlowTold itself is passed over, as one that has told all it had may still be on its way out.
func runningIn() []string {
	room := make([]byte, 1<<22)
	names := []string{}
	for line := range strings.Lines(string(room[:runtime.Stack(room, true)])) {
		name, is := strings.CutPrefix(line, "loop.example/g00411/impl.")
		if is && !strings.HasPrefix(name, "SlowTold.") {
			names = append(names, name)
		}
	}
	return names
}

// goroutinesLeft waits a while till there are no more than there were: one that has come to its end may not be gone at once.
func goroutinesLeft(before int) int {
	for range 2000 {
		if runtime.NumGoroutine() <= before {
			break
		}
		time.Sleep(time.Millisecond)
	}
	return runtime.NumGoroutine()
}

func TestNothingRunsOn(t *testing.T) {
	before := runtime.NumGoroutine()
	for _, text := range append(hurriedWorks(), greatWorks()...) {
		w := clerksNamed(text)
		for range 4 {
			impl.SlowTold(w)
			if names := runningIn(); len(names) > 0 {
				t.Fatalf("of %q SlowTold has answered, and runs on in %v", text, names)
			}
		}
		impl.Stronger(w)
		if names := runningIn(); len(names) > 0 {
			t.Fatalf("of %q Stronger has answered, and runs on in %v", text, names)
		}
		if left := goroutinesLeft(before); left > before {
			t.Fatalf("of %q %d goroutines are left of what was told", text, left-before)
		}
	}
	for _, w := range wrongWorks() {
		impl.SlowTold(w)
		impl.Stronger(w)
	}
	if left := goroutinesLeft(before); left > before {
		t.Errorf("of what is no work %d goroutines are left", left-before)
	}
}

// The test above would see one that runs on.
func TestRunningInSeesWhatRuns(t *testing.T) {
	w := clerksNamed(greatWorks()[2])
	ended := make(chan bool, 1)
	go func() {
		impl.StrictTold(w)
		ended <- true
	}()
	seen := false
	for len(ended) == 0 {
		seen = seen || len(runningIn()) > 0
		runtime.Gosched()
	}
	if <-ended; !seen {
		t.Error("nobody was seen")
	}
	if names := runningIn(); len(names) > 0 {
		t.Errorf("seen: %v", names)
	}
}

func TestToldIsNewMemory(t *testing.T) { mustBeNewMemory(t, impl.SlowTold, impl.StrictTold) }

func TestStrongerLeavesItsArgumentAlone(t *testing.T) {
	for _, w := range append(memoryWorks(), wrongWorks()...) {
		l := laid(w)
		before := l.copied()
		is := impl.Stronger(l.given)
		if !l.isAs(before) || is != impl.Stronger(w) || is != impl.Stronger(l.given) {
			t.Errorf("Stronger(%v) is %v, and leaves %v", w, is, l)
		}
	}
}

// One list may be several clerks'.
func TestToldOfOneListForAllClerks(t *testing.T) {
	for _, list := range [][]impl.Deed{{}, clerkOf("read x"), clerkOf("write x 1", "read x"), clerkOf("write x 1", "read y"), clerkOf("swap x 1"), clerkOf("wait", "write y 2", "wait", "read y")} {
		w := workOf(list, list, list)
		before := copiedWork(w)
		if met := mustTell(t, w); met.works != 1 || !sameWork(w, before) {
			t.Errorf("of %v is left %v, with %v", before, w, met)
		}
	}
}
