package tests

import (
	"slices"
	"strings"
	"testing"

	"loop.example/g00411/impl"
)

// scene is what there is between two steps, told without a board: how many Deeds of each clerk are done, how many of its notes came to the board, what stands there, and what the reads saw.
type scene struct {
	next, brought [3]int
	places        [3]int64
	seen          [6]int64
}

// play is a work that is done in all ways, each one on to its end before the next one is taken up. Of each outcome it keeps the steps by which it came there first.
type play struct {
	w     [][]impl.Deed
	quick bool
	met   map[scene]bool
	ways  map[listKey][]int64
}

func isPlain(d impl.Deed) bool { return d.Group == 0 && (d.Kind == 1 || d.Kind == 2) }

func readsIn(w ...[]impl.Deed) int {
	n := 0
	for _, d := range slices.Concat(w...) {
		n += int(d.Kind % 2)
	}
	return n
}

// notesIn are the plain writes that a clerk did, less those that came to the board.
func (p play) notesIn(s scene, c int) []impl.Deed {
	notes := []impl.Deed{}
	for _, d := range p.w[c][:s.next[c]] {
		if d.Kind == 2 && isPlain(d) {
			notes = append(notes, d)
		}
	}
	return notes[s.brought[c]:]
}

func (s scene) brings(c int, note impl.Deed) scene {
	s.places[note.Place] = note.Value
	s.brought[c]++
	return s
}

// does lets a clerk that has these notes do its next Deed, with all that is left of its Group.
func (p play) does(s scene, c int, notes []impl.Deed) scene {
	deeds := p.w[c]
	for group := deeds[s.next[c]].Group; ; {
		d := deeds[s.next[c]]
		if d.Kind == 1 || d.Kind == 3 {
			at := readsIn(p.w[:c]...) + readsIn(deeds[:s.next[c]])
			s.seen[at] = s.places[d.Place]
			for _, note := range notes {
				if note.Place == d.Place {
					s.seen[at] = note.Value
				}
			}
		}
		if d.Kind == 3 || d.Kind == 2 && !isPlain(d) {
			s.places[d.Place] = d.Value
		}
		s.next[c]++
		if group == 0 || s.next[c] == len(deeds) || deeds[s.next[c]].Group != group {
			return s
		}
	}
}

func (p play) goOn(s scene, steps []int64) {
	if p.met[s] {
		return
	}
	p.met[s] = true
	ended := true
	for c, deeds := range p.w {
		notes, works := p.notesIn(s, c), s.next[c] < len(deeds)
		ended = ended && !works && len(notes) == 0
		if works && (len(notes) == 0 || isPlain(deeds[s.next[c]])) {
			then, way := p.does(s, c, notes), append(slices.Clip(steps), int64(c))
			if left := p.notesIn(then, c); p.quick && len(left) > 0 {
				then, way = then.brings(c, left[0]), append(way, int64(10+c))
			}
			p.goOn(then, way)
		}
		if len(notes) > 0 {
			p.goOn(s.brings(c, notes[0]), append(slices.Clip(steps), int64(10+c)))
		}
	}
	if ended {
		p.ways[keyOf(append(s.seen[:readsIn(p.w...):readsIn(p.w...)], s.places[:]...))] = slices.Clone(steps)
	}
}

// waysTold are steps to each outcome there is, slowly or by whatever Quick.
func waysTold(w [][]impl.Deed, quick bool) map[listKey][]int64 {
	p := play{w: w, quick: quick, met: map[scene]bool{}, ways: map[listKey][]int64{}}
	if isWork(w) {
		p.goOn(scene{}, nil)
	}
	return p.ways
}

// isLess finds the first place where two lists that are as long differ.
func isLess(a []int64, b []int64) bool {
	for i := range a {
		if a[i] != b[i] {
			return a[i] < b[i]
		}
	}
	return false
}

// mustBeOutcomes wants them all as long as outcomes of the work are, and each one less than the next one.
func mustBeOutcomes(t *testing.T, w [][]impl.Deed, list [][]int64) {
	t.Helper()
	for i, one := range list {
		if len(one) != readsIn(w...)+3 {
			t.Fatalf("of %v comes %v", w, one)
		}
		if i > 0 && !isLess(list[i-1], one) {
			t.Fatalf("of %v come %v: %v stands behind %v", w, list, one, list[i-1])
		}
	}
}

// mustBeJust wants an outcome for each of the ways, and no other.
func mustBeJust(t *testing.T, name string, w [][]impl.Deed, list [][]int64, ways map[listKey][]int64) {
	t.Helper()
	mustBeOutcomes(t, w, list)
	for _, one := range list {
		if _, is := ways[keyOf(one)]; !is {
			t.Fatalf("%s(%v) = %v; nobody comes to %v", name, w, list, one)
		}
	}
	if len(list) != len(ways) {
		t.Fatalf("%s(%v) = %v; want %d, of %v", name, w, list, len(ways), ways)
	}
}

// ended counts works: all, those that have several ends, and those that have some that no Quick comes to.
type ended struct{ works, several, slowly int }

func (e *ended) add(more ended) {
	e.works, e.several, e.slowly = e.works+more.works, e.several+more.several, e.slowly+more.slowly
}

// mustEnd holds all ends of a work, or of what is none, against what the test tells, and asks promise 16 of them.
func mustEnd(t *testing.T, w [][]impl.Deed) ended {
	t.Helper()
	ends, quick := impl.Ends(w), impl.QuickEnds(w)
	mustBeJust(t, "Ends", w, ends, waysTold(w, false))
	mustBeJust(t, "QuickEnds", w, quick, waysTold(w, true))
	for _, one := range quick {
		if !slices.ContainsFunc(ends, func(end []int64) bool { return sameList(end, one) }) || !impl.InEnds(ends, one) {
			t.Fatalf("of %v comes %v by Quick alone: Ends are %v", w, one, ends)
		}
	}
	met := ended{}
	if is := isWork(w); is != (len(ends) > 0) || is != (len(quick) > 0) {
		t.Fatalf("of %v come %v and %v", w, ends, quick)
	} else if is {
		met.works = 1
	}
	if len(ends) > 1 {
		met.several = 1
	}
	if len(ends) > len(quick) {
		met.slowly = 1
	}
	return met
}

// mustHaveMetEnds wants works of each sort: the promise would say little of the others.
func mustHaveMetEnds(t *testing.T, met ended) {
	t.Helper()
	if met.slowly == 0 || met.slowly >= met.several || met.several >= met.works {
		t.Errorf("met: %v", met)
	}
}

// ranQuick goes on from a new board by Quick; each of them must be done.
func ranQuick(t *testing.T, w [][]impl.Deed, clerks []int64) impl.Board {
	t.Helper()
	b, ok := impl.NewBoard(w)
	for _, clerk := range clerks {
		if ok {
			b, ok = impl.Quick(b, clerk)
		}
	}
	if !ok {
		t.Fatalf("of %v nothing comes by %v", w, clerks)
	}
	return b
}

func mustShow(t *testing.T, b impl.Board, one []int64, way []int64) {
	t.Helper()
	if !impl.Ended(b) || !sameList(impl.ShownBoard(b), one) {
		t.Fatalf("by %v comes %v, and not %v", way, b, one)
	}
}

// Promise 16: each of the Ends comes of some steps, each of QuickEnds of some Quick; and of some steps, too.
func TestEachEndComesOfSteps(t *testing.T) {
	slowly, quickly := 0, 0
	for _, w := range endedWorks() {
		ways := waysTold(w, false)
		for _, one := range impl.Ends(w) {
			slowly++
			way := ways[keyOf(one)]
			ran, _ := impl.Ran(w, way)
			mustShow(t, ran, one, way)
		}
		ways = waysTold(w, true)
		for _, one := range impl.QuickEnds(w) {
			quickly++
			way := ways[keyOf(one)]
			ran, _ := impl.Ran(w, way)
			mustShow(t, ran, one, way)
			clerks := slices.DeleteFunc(slices.Clone(way), func(s int64) bool { return s >= 10 })
			mustShow(t, ranQuick(t, w, clerks), one, clerks)
		}
	}
	if quickly == 0 || slowly <= quickly {
		t.Errorf("%d ends, %d by Quick", slowly, quickly)
	}
}

// endedWorks are of two and three clerks, of all kinds of Deeds.
func endedWorks() [][][]impl.Deed {
	works := [][][]impl.Deed{}
	for _, text := range slices.Concat(walkedWorks(), rightWorks(), greatWorks()) {
		works = append(works, clerksNamed(text))
	}
	plain, all := twoSorts()
	for _, one := range all {
		for _, two := range plain {
			works = append(works, workOf(one, two))
		}
	}
	return works
}

// Promise 16: whatever is Possible, picked till all is ended, comes to one of the Ends; whatever Quick to one of QuickEnds.
func TestWhateverIsPickedIsAnEnd(t *testing.T) {
	met, seed := map[listKey]bool{}, int64(1)
	next := func(n int) int {
		seed = (seed*1103515245 + 12345) % (1 << 31)
		return int(seed>>8) % n
	}
	for _, w := range slices.Concat(endedWorks(), someWorks()) {
		if !isWork(w) {
			continue
		}
		ends, quick := impl.Ends(w), impl.QuickEnds(w)
		for range 12 {
			steps, b := picked(t, w, func(_ int, possible []int64) int64 { return possible[next(len(possible))] })
			if !impl.Ended(b) || !impl.InEnds(ends, impl.ShownBoard(b)) {
				t.Fatalf("by %v comes %v, which is none of %v", steps, b, ends)
			}
			met[keyOf(impl.ShownBoard(b))] = true
			b, _ = impl.NewBoard(w)
			for n := 0; !impl.Ended(b) && n < 200; n++ {
				b, _ = impl.Quick(b, int64(next(len(w))))
			}
			if !impl.Ended(b) || !impl.InEnds(quick, impl.ShownBoard(b)) || !impl.InEnds(ends, impl.ShownBoard(b)) {
				t.Fatalf("by Quick comes %v, which is none of %v", b, quick)
			}
		}
	}
	if len(met) < 100 {
		t.Errorf("%d outcomes were met", len(met))
	}
}

// Promise 16, by all boards that come of the program's own steps: those that are ended show the Ends, and none is missing.
func TestEndsAreOfAllBoards(t *testing.T) {
	for _, text := range append(walkedWorks(), rightWorks()...) {
		w := clerksNamed(text)
		shown := map[listKey][]int64{}
		for _, b := range boardsOf(w) {
			if impl.Ended(b) {
				shown[keyOf(impl.ShownBoard(b))] = nil
			}
		}
		mustBeJust(t, "Ends", w, impl.Ends(w), shown)
	}
}

func TestEndsOfOneClerk(t *testing.T) {
	some := append(clerksOf(clerkOf("read x", "write x 1", "swap x 2", "wait", "write y 3"), 3), clerksOf(clerkOf("read x in 1", "write x 1 in 1", "read x", "write x 2 in 2"), 4)...)
	right := 0
	for _, one := range some {
		for _, w := range [][][]impl.Deed{workOf(one), workOf(nil, one, nil)} {
			met := mustEnd(t, w)
			// There is nobody to come in between.
			if met.several > 0 {
				t.Errorf("of %v come %v", w, impl.Ends(w))
			}
			right += met.works
		}
	}
	if right == 0 {
		t.Error("none is a work")
	}
}

func TestEndsOfTwoClerks(t *testing.T) {
	met := ended{}
	_, all := twoSorts()
	for _, one := range all {
		for _, two := range all {
			met.add(mustEnd(t, workOf(one, two)))
		}
	}
	few := clerksOf(clerkOf("read x", "write x 1", "swap y 2", "write y 3", "wait"), 2)
	for _, one := range few {
		for _, two := range few {
			met.add(mustEnd(t, workOf(one, revalued(workOf(two))[0])))
		}
	}
	mustHaveMetEnds(t, met)
}

func TestEndsOfThreeClerks(t *testing.T) {
	met := ended{}
	some := [][]impl.Deed{nil, clerkOf("read x"), clerkOf("swap x 2"), clerkOf("write x 1", "read y"), clerkOf("write y 2", "wait", "read x"), clerkOf("read y", "read x"), clerkOf("write y 3", "write x 4")}
	for _, one := range append(slices.Clone(some), clerkOf("write x 1 in 1", "read y in 1"), clerkOf("write x 5 in 1", "write y 6 in 1")) {
		for _, two := range append(slices.Clone(some), clerkOf("write y 7", "read x in 2")) {
			for _, three := range some {
				met.add(mustEnd(t, workOf(one, two, three)))
			}
		}
	}
	mustHaveMetEnds(t, met)
}

// Works of all Kinds, Groups and lengths, and some that are none.
func TestEndsOfManyWorks(t *testing.T) {
	met := ended{}
	for i, one := range mixedClerks() {
		for j, two := range mixedClerks() {
			met.add(mustEnd(t, workOf(one, two)))
			if (i+j)%3 == 0 {
				met.add(mustEnd(t, workOf(two, clerkOf("read z"), one)))
			}
		}
	}
	for d := range shownDeeds {
		met.add(mustEnd(t, workOf(clerkOf("write x 1", "read y"), append(clerkOf("write y 1"), d))))
	}
	for _, text := range rightWorks() {
		met.add(mustEnd(t, clerksNamed(text)))
	}
	mustHaveMetEnds(t, met)
}

// Of reads and swaps alone, and of what is Waited, nobody has notes that another one could miss.
func TestEndsThatAreAllQuick(t *testing.T) {
	works, several := [][][]impl.Deed{}, 0
	some := clerksOf(clerkOf("read x", "swap x 1", "swap y 2"), 2)
	for i, one := range some {
		for _, two := range some[i:] {
			works = append(works, workOf(one, two))
		}
	}
	plain, _ := twoSorts()
	for i, one := range plain {
		for _, two := range plain[i:] {
			works = append(works, impl.Waited(workOf(one, two)))
		}
	}
	for _, w := range works {
		ends, quick := impl.Ends(w), impl.QuickEnds(w)
		if !slices.EqualFunc(ends, quick, sameList) {
			t.Errorf("of %v come %v, by Quick %v", w, ends, quick)
		}
		several += min(len(ends), 2) - 1
	}
	if several == 0 {
		t.Error("none has several ends")
	}
}

// By Quick a wait changes nothing, and where all is waited for nothing is slow.
func TestQuickEndsAreEndsWhereAllIsWaitedFor(t *testing.T) {
	differ := 0
	plain, _ := twoSorts()
	for _, one := range plain {
		for _, two := range plain {
			w := workOf(one, two)
			if slices.ContainsFunc(slices.Concat(w...), func(d impl.Deed) bool { return d.Group != 0 }) {
				continue
			}
			waited := impl.Waited(w)
			if quick := impl.QuickEnds(w); !slices.EqualFunc(quick, impl.Ends(waited), sameList) || !slices.EqualFunc(quick, impl.QuickEnds(waited), sameList) {
				t.Errorf("of %v come %v by Quick, and waited %v", w, quick, impl.Ends(waited))
			}
			differ += len(impl.Ends(w)) - len(impl.QuickEnds(w))
		}
	}
	if differ == 0 {
		t.Error("the waits change nothing")
	}
}

// endsText has the digits of each outcome, with blanks between.
func endsText(list [][]int64) string {
	words := []string{}
	for _, one := range list {
		words = append(words, digitText(one))
	}
	return strings.Join(words, " ")
}

// byHand is a work, all its outcomes, and those of them that come of Quick.
type byHand struct{ work, ends, quick string }

func endsByHand() []byHand {
	list := []byHand{
		// Nobody has a Deed, or waits alone.
		{"-", "000", ""}, {"- | -", "000", ""}, {"- | - | -", "000", ""}, {"wait", "000", ""}, {"wait; wait | - | wait", "000", ""}, {"wait; wait; wait; wait; wait | wait; wait; wait; wait; wait | wait; wait", "000", ""},
		// One clerk: it sees what it wrote, whether it waits or not.
		{"read x", "0000", ""}, {"write x 7", "700", ""}, {"write z 9 | -", "009", ""}, {"- | - | write y 4", "040", ""}, {"write x 1; read x", "1100", ""}, {"read x; write x 1; read x", "01100", ""}, {"write x 1; wait; read x", "1100", ""}, {"write x 1; write x 2; write y 3; read x; read y", "23230", ""}, {"write x 1; write x 2; write x 3; write x 4; write x 5", "500", ""},
		{"swap x 1", "0100", ""}, {"swap x 1; swap x 2; swap x 3", "012300", ""}, {"write y 4; swap y 5; read y", "45050", ""}, {"read x in 1; write x 1 in 1; read x in 1", "01100", ""}, {"write x 1 in 1; write x 2 in 1; read x in 1; write x 3; read x", "23300", ""},
		// Reads of a place that nobody writes.
		{"read z | write x 1", "0100", ""}, {"read z; read z | read y; write x 3; read z", "0000300", ""}, {"read x; read y; read z | read z; read x; read y", "000000000", ""}, {"read y | read y | read y; write z 8", "000008", ""},
		// One place: who wrote last stays there; nobody sees it run back.
		{"write x 1 | write x 2", "100 200", ""}, {"write x 1 | write x 2 | write x 3", "100 200 300", ""}, {"write x 1 | read x", "0100 1100", ""}, {"write x 1; wait | read x", "0100 1100", ""}, {"write x 1; write x 2 | read x; read x", "00200 01200 02200 11200 12200 22200", ""}, {"write x 1 | write x 2 | read x; read x", "00100 00200 01100 01200 02100 02200 11100 11200 12200 21100 22100 22200", ""}, {"write x 1; read x | write x 2", "1100 1200 2200", ""},
		// The same Value from two clerks is one outcome.
		{"write x 5 | write x 5; read x", "5500", ""}, {"write x 5 | write x 5 | read x", "0500 5500", ""}, {"swap x 5 | swap x 5", "05500 50500", ""},
		// Each one looks what the other one has written, and both see nothing: but by Quick, by waits, by swaps, by Groups they don't.
		{"write x 1; read y | write y 1; read x", "00110 01110 10110 11110", "01110 10110 11110"}, {"write x 1; wait; read y | write y 1; read x", "00110 01110 10110 11110", "01110 10110 11110"}, {"write x 1; wait; read y | write y 1; wait; read x", "01110 10110 11110", ""}, {"swap x 1; read y | swap y 1; read x", "0001110 0100110 0101110", ""}, {"swap x 1; read y | write y 1; read x", "000110 001110 010110 011110", "001110 010110 011110"},
		{"write x 1; read y in 1 | write y 1; read x", "00110 01110 10110 11110", "01110 10110 11110"}, {"write x 1; read y in 1 | write y 1; read x in 2", "01110 10110 11110", ""}, {"write x 1 in 1; read y in 1 | write y 1 in 2; read x in 2", "01110 10110", ""}, {"write x 1; read y | write y 1; read z | write z 1; read x", "000111 001111 010111 011111 100111 101111 110111 111111", "001111 010111 011111 100111 101111 110111 111111"},
		// Its own it sees first.
		{"write x 1; read x; read y | write y 1; read y; read x", "1010110 1011110 1110110 1111110", "1011110 1110110 1111110"},
		// Who reads first writes later: not both see the other one's. What is written in order is seen in order.
		{"read x; write y 1 | read y; write x 1", "00110 01110 10110", ""}, {"write x 1; write y 1 | read y; read x", "00110 01110 11110", ""}, {"write x 1 | read x; write y 1 | read y; read x", "000110 001110 010110 011110 100110 101110 111110", ""},
		// Two places, with Groups and without.
		{"write x 1; write y 1 | write x 2; write y 2", "110 120 210 220", ""}, {"write x 1 in 1; write y 1 in 1 | write x 2 in 2; write y 2 in 2", "110 220", ""}, {"write x 1 in 1; write y 1 in 1 | write x 2; write y 2", "110 120 220", ""}, {"write x 1; write y 1 | read y in 1; read x in 1", "00110 01110 11110", ""}, {"write x 1 in 1; write y 1 in 1 | read y; read x", "00110 01110 11110", ""}, {"write x 1 in 1; write y 1 in 1 | read y in 2; read x in 2", "00110 11110", ""},
		// Swaps see each other, and what was written ahead of them.
		{"swap x 1 | swap x 2", "01200 20100", ""}, {"swap x 1 | write x 2", "0200 2100", ""}, {"swap x 1 | swap x 2 | swap x 3", "012300 031200 201300 230100 302100 310200", ""}, {"write x 1; swap y 2 | swap y 3; read x", "021130 300120 301120", ""},
	}
	for i, c := range list {
		// Where they are the same they are written once.
		if c.quick == "" {
			list[i].quick = c.ends
		}
	}
	return list
}

func TestEndsByHand(t *testing.T) {
	for _, c := range endsByHand() {
		w := clerksNamed(c.work)
		if got := endsText(impl.Ends(w)); got != c.ends {
			t.Errorf("Ends of %q are %s, want %s", c.work, got, c.ends)
		}
		if got := endsText(impl.QuickEnds(w)); got != c.quick {
			t.Errorf("QuickEnds of %q are %s, want %s", c.work, got, c.quick)
		}
		mustEnd(t, w)
	}
}

// greatWorks are as great as a right work may be: three clerks, twelve Deeds, six events.
func greatWorks() []string {
	return []string{
		"write x 1; write y 2; wait; wait | write x 3; write y 4; wait; wait | write x 5; write y 6; wait; wait",
		"write x 1; write x 2; wait; wait | wait; read x; write x 4; wait | read x; wait; wait; read x",
		"write x 1; wait; write x 2; wait | write x 3; wait; write x 4; wait | write x 5; wait; write x 6; wait",
		"wait; wait; write x 1; write y 2 | wait; wait; write y 3; write z 4 | wait; wait; write z 5; write x 6",
		"wait; write x 1; read y; wait | wait; write y 1; read z; wait | wait; write z 1; read x; wait",
		"write x 1; write y 2; write z 3; wait; wait | write x 4; write y 5; write z 6; wait; wait | wait; wait",
		"read x; read x; wait; wait | wait; wait; write x 1; write x 2 | write x 3; write x 4; wait; wait",
		"wait; wait; read x; write x 1 | wait; wait; read x; write x 3 | wait; wait; read x; write x 5",
		"wait; swap x 1; wait; wait | wait; wait; swap x 2; wait | wait; wait; wait; swap x 3",
		"wait; write x 1 in 1; write y 1 in 1; wait | write x 2; wait; write y 2; wait | read y in 3; wait; read x in 2; wait",
		"write x 1; write x 2; write x 3; write x 4; write x 5 | wait; wait; read x; wait; wait | wait; wait",
		"wait; wait; write x 1; read y | read z; write y 1; read x; wait | wait; write z 2; wait; wait",
		"wait; wait; wait; wait; wait | read x; read y; read z; read x; read y | write x 7; wait",
	}
}

func TestEndsOfTheGreatestWorks(t *testing.T) {
	met := ended{}
	for _, text := range greatWorks() {
		w := clerksNamed(text)
		if len(w) != 3 || len(slices.Concat(w...)) != impl.MaxDeeds || impl.EventsIn(w) != impl.MaxEvents {
			t.Errorf("%q is not as great as it may be", text)
		}
		met.add(mustEnd(t, w))
		// An event or a Deed more, and it is none.
		for _, d := range clerkOf("read x", "wait") {
			for c := range w {
				more := copiedWork(w)
				more[c] = append(more[c], d)
				mustHaveNoEnds(t, more)
			}
		}
	}
	if met.slowly < 2 || met.several != met.works {
		t.Errorf("met: %v", met)
	}
	// Six events of fewer Deeds, in which the notes may come in the most ways.
	for _, text := range []string{"write x 1; write x 2 | write x 3; write x 4 | write x 5; write x 6", "write x 1; write y 2; write z 3 | write z 4; write y 5; write x 6", "write x 1; write y 2; write z 3; write x 4; write y 5 | write z 6", "write x 1; read y | write y 1; read z | write z 1; read x", "swap x 1 | swap x 2 | swap x 3", "read x; read x; read x | write x 1; write x 2; write x 3"} {
		mustEnd(t, clerksNamed(text))
	}
}

// mustHaveNoEnds asks without the test's own reading, too.
func mustHaveNoEnds(t *testing.T, w [][]impl.Deed) {
	t.Helper()
	mustEnd(t, w)
	if ends, quick := impl.Ends(w), impl.QuickEnds(w); len(ends) != 0 || len(quick) != 0 {
		t.Errorf("of %v, which is no work, come %v and %v", w, ends, quick)
	}
}

func TestEndsOfWhatIsNoWork(t *testing.T) {
	for _, w := range wrongWorks() {
		mustHaveNoEnds(t, w)
	}
	for _, text := range rightWorks() {
		for c, list := range clerksNamed(text) {
			for i := range list {
				w := clerksNamed(text)
				w[c][i].Kind = 5
				mustHaveNoEnds(t, w)
				w[c][i] = impl.Deed{Kind: impl.DdWrite, Place: 3, Value: 1}
				mustHaveNoEnds(t, w)
			}
		}
	}
	const long = 1 << 20
	mustHaveNoEnds(t, make([][]impl.Deed, long))
	mustHaveNoEnds(t, workOf(make([]impl.Deed, long)))
	mustHaveNoEnds(t, workOf(clerkOf("read x"), make([]impl.Deed, long), make([]impl.Deed, long)))
}

// What comes of a work is the same however often it is asked, and is asked of what the work is now.
func TestEndsAgainAndAgain(t *testing.T) {
	for _, text := range []string{"write x 1; read x; read y | write y 1; read y; read x", "write x 1 | write x 2 | read x; read x", greatWorks()[1]} {
		w := clerksNamed(text)
		ends, quick := endsText(impl.Ends(w)), endsText(impl.QuickEnds(w))
		for range 40 {
			if got := endsText(impl.Ends(w)); got != ends {
				t.Fatalf("Ends of %q are %s, and then %s", text, ends, got)
			}
			if got := endsText(impl.QuickEnds(w)); got != quick {
				t.Fatalf("QuickEnds of %q are %s, and then %s", text, quick, got)
			}
		}
		w[0][0].Value = 9
		mustEnd(t, w)
		if got := endsText(impl.Ends(w)); got == ends || !strings.Contains(got, "9") {
			t.Errorf("Ends of %v are %s", w, got)
		}
	}
}

// isIn looks at each list, number by number.
func isIn(list [][]int64, one []int64) bool {
	for _, some := range list {
		if sameList(some, one) {
			return true
		}
	}
	return false
}

func mustFind(t *testing.T, list [][]int64, one []int64, is bool) {
	t.Helper()
	if isIn(list, one) != is || impl.InEnds(list, one) != is {
		t.Errorf("InEnds(%v, %v) = %v, want %v", list, one, impl.InEnds(list, one), is)
	}
}

// listsNamed has a list for each word; a point is the empty one.
func listsNamed(words string) [][]int64 {
	lists := [][]int64{}
	for word := range strings.FieldsSeq(words) {
		lists = append(lists, digitsNamed(strings.ReplaceAll(word, ".", "")))
	}
	return lists
}

func TestInEndsByHand(t *testing.T) {
	const four = "00110 01110 10110 11110"
	for _, c := range []struct {
		list, one string
		want      bool
	}{
		// The first one, those between, the last one, and some that are not there.
		{four, "00110", true}, {four, "01110", true}, {four, "10110", true}, {four, "11110", true}, {four, "00000", false}, {four, "00111", false}, {four, "99999", false}, {four, "-0110", false}, {four, "0110-", false},
		{"100", "100", true}, {"100", "200", false}, {"-00", "-00", true}, {"-00", "100", false},
		// Shorter and longer by one than one that is there, at either end.
		{four, "0011", false}, {four, "0110", false}, {four, "001100", false}, {four, "000110", false}, {four, "1111", false}, {four, "111100", false}, {four, "0", false}, {"0", "00", false}, {"00", "0", false},
		// Nothing in the list, an empty one in it, and an empty one asked for.
		{"", "000", false}, {"", ".", false}, {".", ".", true}, {".", "0", false}, {four, ".", false}, {four + " .", ".", true}, {". " + four, ".", true}, {". " + four, "00110", true}, {". .", ".", true}, {"0 . 1", ".", true}, {"0 . 1", "1", true}, {"0 . 1", "2", false},
		// No outcomes: in no order, twice, not as many numbers each.
		{"300 100 200", "300", true}, {"300 100 200", "100", true}, {"300 100 200", "200", true}, {"300 100 200", "400", false}, {"100 100 200 200", "100", true}, {"100 100 200 200", "200", true}, {"100 100 200 200", "150", false}, {"111 11 1 1111", "11", true}, {"111 11 1 1111", "1111", true}, {"111 11 1 1111", "11111", false}, {"9 8 7 6 5 4 3 2 1", "1", true}, {"9 8 7 6 5 4 3 2 1", "0", false},
	} {
		list, one := listsNamed(c.list), digitsNamed(strings.ReplaceAll(c.one, ".", ""))
		mustFind(t, list, one, c.want)
		slices.Reverse(list)
		mustFind(t, list, one, c.want)
	}
}

// Nil is as an empty list is.
func TestInEndsOfNil(t *testing.T) {
	for _, empty := range [][]int64{nil, {}, make([]int64, 0, 5)} {
		mustFind(t, nil, empty, false)
		mustFind(t, [][]int64{}, empty, false)
		mustFind(t, [][]int64{{0}, {1}}, empty, false)
		for _, other := range [][]int64{nil, {}, make([]int64, 0, 5)} {
			mustFind(t, [][]int64{other}, empty, true)
			mustFind(t, [][]int64{{0}, {1}, other}, empty, true)
			mustFind(t, [][]int64{other, {0}}, []int64{0}, true)
			mustFind(t, [][]int64{other}, []int64{0}, false)
		}
	}
	mustFind(t, nil, []int64{0, 0, 0}, false)
}

// Each list of at most three numbers is asked for in lists of some of them; numbers may be of any range.
func TestInEndsOfAllShortLists(t *testing.T) {
	all, found := [][]int64{{}}, 0
	for n := 1; n <= 3; n++ {
		all = append(all, listsOf(n, -1, 2)...)
	}
	for i := range all {
		list := [][]int64{all[i], all[(i*7+3)%len(all)], all[(i*i)%len(all)], all[i]}
		for _, one := range all {
			is := isIn(list, one)
			mustFind(t, list, one, is)
			if is {
				found++
			}
		}
		mustFind(t, all, all[i], true)
	}
	if found == 0 || len(all) != 1+3+9+27 {
		t.Errorf("%d were found, of %d lists", found, len(all))
	}
	for _, n := range far {
		mustFind(t, [][]int64{{n}, {0, n}}, []int64{n}, true)
		mustFind(t, [][]int64{{n}, {0, n}}, []int64{0, n}, true)
		mustFind(t, [][]int64{{n}, {0, n}}, []int64{n, 0}, false)
		mustFind(t, [][]int64{{0}, {1}, {-1}}, []int64{n}, false)
		mustFind(t, [][]int64{{n ^ 1}, {n ^ 1<<32}, {-n - 1}}, []int64{n}, false)
	}
}

// Each of all ends is one of them; what is off by one number is one just where it stands there.
func TestEndsAreInEnds(t *testing.T) {
	off := 0
	for _, w := range endedWorks() {
		ends := impl.Ends(w)
		for _, one := range ends {
			mustFind(t, ends, one, true)
			for _, other := range oneOff(one, []int64{-1, 0, 1, 2, 9}) {
				if is := isIn(ends, other); is != impl.InEnds(ends, other) {
					t.Fatalf("InEnds(%v, %v) = %v", ends, other, !is)
				} else if !is {
					off++
				}
			}
			mustFind(t, ends, one[:len(one)-1], false)
			mustFind(t, ends, one[1:], false)
			mustFind(t, ends, append(copied(one), 0), false)
		}
	}
	if off == 0 {
		t.Error("none is off")
	}
}

func TestInEndsOfVeryLongLists(t *testing.T) {
	const long = 1 << 20
	zeros, list := make([]int64, long), make([][]int64, long)
	for i := range list {
		list[i] = []int64{int64(i), 0, 0}
	}
	for _, c := range []struct {
		list [][]int64
		one  []int64
		want bool
	}{
		{list, []int64{0, 0, 0}, true}, {list, []int64{long / 2, 0, 0}, true}, {list, []int64{long - 1, 0, 0}, true}, {list, []int64{long, 0, 0}, false}, {list, []int64{long - 1, 0}, false}, {list, nil, false}, {list, zeros, false},
		{[][]int64{zeros}, zeros, true}, {[][]int64{zeros[1:], zeros}, zeros, true}, {[][]int64{zeros}, zeros[1:], false}, {[][]int64{zeros[1:], zeros[2:]}, zeros, false}, {[][]int64{zeros, {0}}, []int64{0}, true}, {make([][]int64, long), nil, true}, {make([][]int64, long), []int64{0}, false},
		{[][]int64{append(slices.Clone(zeros), 1)}, append(slices.Clone(zeros), 2), false}, {[][]int64{append(slices.Clone(zeros), 1)}, append(slices.Clone(zeros), 1), true},
	} {
		if got := impl.InEnds(c.list, c.one); got != c.want {
			t.Errorf("InEnds of %d lists, of one of %d numbers, is %v", len(c.list), len(c.one), got)
		}
	}
}

func spansOfLists(lists [][]int64) []span {
	spans := []span{spanOf(lists)}
	for _, list := range lists {
		spans = append(spans, spanOf(list))
	}
	return spans
}

// spoilLists writes over all lists and the room behind them.
func spoilLists(lists [][]int64) {
	for _, list := range lists {
		spoil(list)
	}
	clear(lists[:cap(lists)])
}

func TestEndsAreNewMemory(t *testing.T) { mustBeNewMemory(t, impl.Ends, impl.QuickEnds) }

// mustBeNewMemory wants outcomes that share memory with nothing: not with the work, with each other, nor with what is told of it again.
func mustBeNewMemory(t *testing.T, asks ...func(w [][]impl.Deed) [][]int64) {
	t.Helper()
	works := append(memoryWorks(), wrongWorks()...)
	for _, text := range append(walkedWorks(), greatWorks()[:3]...) {
		works = append(works, clerksNamed(text))
	}
	for i, ask := range asks {
		for _, w := range works {
			l := laid(w)
			before := l.copied()
			one, other := ask(l.given), ask(l.given)
			want := copiedLists(other)
			others := append(append(spansOfWork(l.given), spanOf(l.floor), spanOf(l.clerks)), spansOfLists(other)...)
			mustLieApart(t, spansOfLists(one), others, w)
			spoilLists(one)
			if !l.isAs(before) || !slices.EqualFunc(other, want, sameList) || !slices.EqualFunc(ask(l.given), want, sameList) {
				t.Errorf("%d: what comes of %v shares memory", i, w)
			}
			// What was handed in is changed, and the answer stays.
			for _, list := range l.given {
				for d := range list {
					list[d] = mark
				}
			}
			if !slices.EqualFunc(other, want, sameList) {
				t.Errorf("%d: what comes of %v lies in the memory of the work", i, w)
			}
		}
	}
}

// One list may be several clerks'.
func TestEndsOfOneListForAllClerks(t *testing.T) {
	for _, list := range [][]impl.Deed{{}, clerkOf("read x"), clerkOf("write x 1", "read x"), clerkOf("swap x 1"), clerkOf("wait", "write y 2", "wait", "read y")} {
		w := workOf(list, list, list)
		before := copiedWork(w)
		if met := mustEnd(t, w); met.works != 1 || !sameWork(w, before) {
			t.Errorf("of %v is left %v, with %v", before, w, met)
		}
	}
}

func TestInEndsLeavesItsArgumentsAlone(t *testing.T) {
	for _, words := range []string{"", ".", "000", "00110 01110 10110 11110", "300 100 . 100 7"} {
		given, rooms := listsNamed(words), [][]int64{}
		for i, list := range given {
			lain, room := roomy(list)
			given[i], rooms = lain, append(rooms, room)
		}
		// Behind the list there is room, too.
		all := append(given, digitsNamed("5"), nil)
		given = all[:len(given)]
		before, was := endsText(rooms), endsText(all)
		for _, one := range append(slices.Clone(given), nil, digitsNamed("5"), digitsNamed("00111"), digitsNamed("300")) {
			asked, room := roomy(one)
			wanted := copied(room)
			is := isIn(given, asked)
			for range 2 {
				mustFind(t, given, asked, is)
			}
			if !sameList(room, wanted) || endsText(rooms) != before || endsText(all) != was {
				t.Errorf("of %q and %v is left %v and %v", words, one, all, room)
			}
		}
		// It may be one of the lists itself, or a piece of one.
		for _, list := range given {
			mustFind(t, given, list, true)
			mustFind(t, given, list[:cap(list)], false)
		}
	}
}
