package tests

import (
	"fmt"
	"slices"
	"strconv"
	"strings"
	"testing"
	"time"

	"loop.example/g00411/impl"
)

// askNamed has a pair for each word; its numbers may be of any range.
func askNamed(words string) impl.Ask {
	a := impl.Ask{}
	for word := range strings.FieldsSeq(words) {
		at, value, _ := strings.Cut(word, "=")
		a = with(a, wholeNamed(at), wholeNamed(value))
	}
	return a
}

func wholeNamed(word string) int64 {
	n, err := strconv.ParseInt(word, 10, 64)
	if err != nil {
		panic(word + " is no number")
	}
	return n
}

func sameAsk(a impl.Ask, b impl.Ask) bool {
	return sameList(a.Reads, b.Reads) && sameList(a.Values, b.Values)
}

func copiedAsk(a impl.Ask) impl.Ask {
	return impl.Ask{Reads: copied(a.Reads), Values: copied(a.Values)}
}

// with is the ask and one pair more.
func with(a impl.Ask, at int64, value int64) impl.Ask {
	return impl.Ask{Reads: append(copied(a.Reads), at), Values: append(copied(a.Values), value)}
}

// numbersAsked are those by which reads and places may be asked for, in the order in which these stand in outcomes.
func numbersAsked(w [][]impl.Deed) []int64 {
	return append(upTo(0, int64(readsIn(w...)-1)), 100, 101, 102)
}

// isAsk is chapter 18 as the test reads it.
func isAsk(w [][]impl.Deed, a impl.Ask) bool {
	if !isWork(w) || len(a.Reads) != len(a.Values) || len(a.Reads) >= 7 {
		return false
	}
	for i, at := range a.Reads {
		if !slices.Contains(numbersAsked(w), at) || !slices.Contains(upTo(0, 9), a.Values[i]) {
			return false
		}
	}
	return true
}

func hasValues(w [][]impl.Deed, a impl.Ask, one []int64) bool {
	if !isAsk(w, a) || len(one) != readsIn(w...)+3 {
		return false
	}
	has := 0
	for i, at := range a.Reads {
		if one[slices.Index(numbersAsked(w), at)] == a.Values[i] {
			has++
		}
	}
	return has == len(a.Reads)
}

// outcomesTold are all ends of a work by the test's own walk; nothing of what is none.
func outcomesTold(w [][]impl.Deed) [][]int64 {
	list := [][]int64{}
	for key := range waysTold(w, false) {
		list = append(list, copied(key.all[:key.length]))
	}
	return list
}

// judging counts asks: all, those that are refused, and those that none, some or all of several ends meet.
type judging struct{ asks, refused, none, some, all int }

func (j *judging) add(more judging) {
	j.asks, j.refused, j.none, j.some, j.all = j.asks+more.asks, j.refused+more.refused, j.none+more.none, j.some+more.some, j.all+more.all
}

// mustHaveMetJudging wants asks of each sort: the promise would say little of the others.
func mustHaveMetJudging(t *testing.T, met judging) {
	t.Helper()
	if met.refused == 0 || met.none == 0 || met.some == 0 || met.all == 0 || met.refused+met.none+met.some+met.all > met.asks {
		t.Errorf("met: %v", met)
	}
}

// mustJudge holds all answers to one ask against what the test tells; outcomes are all ends of the work.
func mustJudge(t *testing.T, w [][]impl.Deed, a impl.Ask, outcomes [][]int64) judging {
	t.Helper()
	is, count := isAsk(w, a), 0
	if got := impl.AskOk(w, a); got != is {
		t.Fatalf("AskOk(%v, %v) = %v", w, a, got)
	}
	for _, one := range outcomes {
		has := hasValues(w, a, one)
		if got := impl.Meets(w, a, one); got != has {
			t.Fatalf("Meets(%v, %v, %v) = %v", w, a, one, got)
		}
		if has {
			count++
		}
	}
	want, wantAll := int64(count), int64(len(outcomes))
	if !is {
		want, wantAll = -1, -1
	}
	if got, all := impl.Judged(w, a); got != want || all != wantAll {
		t.Fatalf("Judged(%v, %v) = %d, %d; want %d, %d", w, a, got, all, want, wantAll)
	}
	met := judging{asks: 1}
	switch {
	case !is:
		met.refused = 1
	case len(outcomes) < 2:
	case count == 0:
		met.none = 1
	case count == len(outcomes):
		met.all = 1
	default:
		met.some = 1
	}
	return met
}

// onePair are the asks of one pair: of each read and each place with each Value, and of some that there are none of.
func onePair(w [][]impl.Deed) []impl.Ask {
	asks, reads := []impl.Ask{}, int64(readsIn(w...))
	for _, at := range append(upTo(-1, reads), 99, 100, 101, 102, 103) {
		for _, value := range upTo(-1, 10) {
			asks = append(asks, with(impl.Ask{}, at, value))
		}
	}
	return asks
}

// fromOutcome are asks that this outcome meets, and asks that differ from these in one Value, one pair or one number.
func fromOutcome(w [][]impl.Deed, one []int64) []impl.Ask {
	asked := numbersAsked(w)
	more := max(len(asked)-6, 0)
	if more == 0 {
		return aroundAsk(impl.Ask{Reads: asked, Values: one})
	}
	// It is more than may be asked at once.
	first := aroundAsk(impl.Ask{Reads: asked[:6], Values: one[:6]})
	last := aroundAsk(impl.Ask{Reads: asked[more:], Values: one[more:]})
	return append(append(first, last...), impl.Ask{Reads: asked, Values: one})
}

func aroundAsk(a impl.Ask) []impl.Ask {
	last := len(a.Reads) - 1
	off, short, uneven, other := copiedAsk(a), copiedAsk(a), copiedAsk(a), copiedAsk(a)
	off.Values[last] = (off.Values[last] + 1) % 10
	short.Reads, short.Values = short.Reads[:last], short.Values[:last]
	uneven.Reads = uneven.Reads[:last]
	other.Reads[0] = 103
	return []impl.Ask{a, off, short, uneven, other, with(short, short.Reads[0], short.Values[0]), with(short, short.Reads[0], (short.Values[0]+1)%10)}
}

// someAsks are of all sorts: of no pair, and what two of the work's ends tell.
func someAsks(w [][]impl.Deed, outcomes [][]int64) []impl.Ask {
	asks := []impl.Ask{{}}
	if len(outcomes) > 0 {
		asks = append(asks, fromOutcome(w, outcomes[0])...)
		asks = append(asks, fromOutcome(w, outcomes[len(outcomes)/2])...)
	}
	return asks
}

// Promise 18: of many works and asks the first number is how many of Ends Meets takes, the second how many there are.
func TestJudgedCountsThoseThatMeet(t *testing.T) {
	met := judging{}
	for _, w := range endedWorks() {
		ends := impl.Ends(w)
		mustBeJust(t, "Ends", w, ends, waysTold(w, false))
		for _, a := range someAsks(w, ends) {
			met.add(mustJudge(t, w, a, ends))
		}
	}
	mustHaveMetJudging(t, met)
}

// Promise 18: an ask without pairs is met by all.
func TestJudgedWithoutPairs(t *testing.T) {
	several := 0
	for i, w := range someWorks() {
		if i%7 != 0 || !isWork(w) {
			continue
		}
		ends := impl.Ends(w)
		for _, a := range []impl.Ask{{}, {Reads: []int64{}}, {Values: []int64{}}, {Reads: []int64{}, Values: []int64{}}} {
			if got, all := impl.Judged(w, a); got != int64(len(ends)) || all != got {
				t.Fatalf("Judged(%v, %v) = %d, %d; Ends %v", w, a, got, all, ends)
			}
			for _, one := range ends {
				if !impl.Meets(w, a, one) {
					t.Fatalf("Meets(%v, %v, %v) is false", w, a, one)
				}
			}
		}
		several += min(len(ends), 2) - 1
	}
	if several == 0 {
		t.Error("none has several ends")
	}
}

func TestJudgedOfOnePair(t *testing.T) {
	met := judging{}
	for _, text := range append(walkedWorks(), rightWorks()...) {
		w := clerksNamed(text)
		outcomes := outcomesTold(w)
		for _, a := range onePair(w) {
			met.add(mustJudge(t, w, a, outcomes))
		}
	}
	mustHaveMetJudging(t, met)
}

// Each end has one Value at each read and each place: those that meet one or another of them are all.
func TestJudgedByEachValue(t *testing.T) {
	for _, text := range append(walkedWorks(), greatWorks()[1]) {
		w := clerksNamed(text)
		_, all := impl.Judged(w, impl.Ask{})
		for _, at := range numbersAsked(w) {
			sum := int64(0)
			for _, value := range upTo(0, 9) {
				met, of := impl.Judged(w, with(impl.Ask{}, at, value))
				if sum += met; met < 0 || of != all {
					t.Errorf("Judged of %q, %d=%d, is %d, %d", text, at, value, met, of)
				}
			}
			if sum != all || all == 0 {
				t.Errorf("of %q %d of %d have a Value at %d", text, sum, all, at)
			}
		}
	}
}

func TestJudgedOfThreeClerks(t *testing.T) {
	met := judging{}
	for _, text := range []string{"write x 1 | write x 2 | read x; read x", "write x 1; read y | write y 1; read z | write z 1; read x", "swap x 1 | swap x 2 | swap x 3", "- | read z | write z 9"} {
		w := clerksNamed(text)
		outcomes := outcomesTold(w)
		for _, one := range outcomes {
			for _, a := range fromOutcome(w, one) {
				met.add(mustJudge(t, w, a, outcomes))
			}
		}
		for _, a := range onePair(w) {
			for _, at := range []int64{0, 101} {
				met.add(mustJudge(t, w, with(a, at, 1), outcomes))
			}
		}
	}
	mustHaveMetJudging(t, met)
}

func TestJudgedByHand(t *testing.T) {
	const both = "write x 1; read y | write y 1; read x"
	for _, c := range []struct {
		work, ask string
		met, all  int64
	}{
		// 00110 01110 10110 11110.
		{both, "", 4, 4}, {both, "0=0", 2, 4}, {both, "0=1", 2, 4}, {both, "0=2", 0, 4}, {both, "1=0", 2, 4}, {both, "0=0 1=0", 1, 4}, {both, "1=1 0=1", 1, 4}, {both, "0=0 1=0 100=1", 1, 4}, {both, "100=1", 4, 4}, {both, "101=1", 4, 4}, {both, "102=0", 4, 4}, {both, "102=1", 0, 4}, {both, "100=1 101=1 102=0", 4, 4}, {both, "100=1 101=1 102=9", 0, 4},
		// The same read or place twice, with the same Value and with another one.
		{both, "0=0 0=0", 2, 4}, {both, "0=0 0=1", 0, 4}, {both, "100=1 100=1", 4, 4}, {both, "100=1 100=0", 0, 4}, {both, "0=1 0=1 0=1 0=1 0=1 0=1", 2, 4}, {both, "0=1 0=1 0=1 0=1 0=1 0=0", 0, 4}, {both, "0=1 0=1 0=1 0=1 0=1 1=1", 1, 4},
		// Refused.
		{both, "2=0", -1, -1}, {both, "-1=0", -1, -1}, {both, "0=10", -1, -1}, {both, "0=-1", -1, -1}, {both, "99=0", -1, -1}, {both, "103=0", -1, -1}, {both, "0=0 1=0 2=0", -1, -1}, {both, "0=0 0=0 0=0 0=0 0=0 0=0 0=0", -1, -1}, {both, "0=5 103=5", -1, -1},
		// Who waits sees it.
		{"write x 1; wait; read y | write y 1; wait; read x", "0=0 1=0", 0, 3}, {"write x 1; wait; read y | write y 1; wait; read x", "0=1 1=1", 1, 3},
		// Without reads, without writes, without Deeds.
		{"-", "", 1, 1}, {"-", "100=0 101=0 102=0", 1, 1}, {"-", "100=1", 0, 1}, {"-", "0=0", -1, -1}, {"wait | wait", "102=0", 1, 1}, {"write x 1 | write x 2", "", 2, 2}, {"write x 1 | write x 2", "100=1", 1, 2}, {"write x 1 | write x 2", "100=2", 1, 2}, {"write x 1 | write x 2", "100=0", 0, 2}, {"write x 1 | write x 2", "0=1", -1, -1}, {"read x | read y", "0=0 1=0 100=0", 1, 1},
		// One clerk's end is just one.
		{"write x 1; write x 2; write y 3; read x; read y", "0=2 1=3 100=2 101=3 102=0", 1, 1}, {"write x 1; write x 2; write y 3; read x; read y", "0=2 1=2", 0, 1},
		// As many reads and places as there may be: the last read is 5.
		{"read x; read y; read z | read z; read x; read y", "0=0 1=0 2=0 3=0 4=0 5=0", 1, 1}, {"read x; read y; read z | read z; read x; read y", "5=0 102=0", 1, 1}, {"read x; read y; read z | read z; read x; read y", "5=1", 0, 1}, {"read x; read y; read z | read z; read x; read y", "6=0", -1, -1},
		// Places, all of another Value: the third read is not the first place.
		{"write x 7; write y 8; write z 9", "100=7 101=8 102=9", 1, 1}, {"write x 7; write y 8; write z 9", "100=8", 0, 1}, {"write x 7; write y 8; write z 9", "101=7", 0, 1}, {"write x 7; write y 8; write z 9", "102=8", 0, 1}, {"write x 7; read x; read x | read z; read z", "2=0 3=0 100=7", 1, 1}, {"write x 7; read x; read x | read z; read z", "2=7", 0, 1},
		// Swaps: 012300 031200 201300 230100 302100 310200.
		{"swap x 1 | swap x 2 | swap x 3", "", 6, 6}, {"swap x 1 | swap x 2 | swap x 3", "0=0", 2, 6}, {"swap x 1 | swap x 2 | swap x 3", "100=3", 2, 6}, {"swap x 1 | swap x 2 | swap x 3", "0=0 100=3", 1, 6}, {"swap x 1 | swap x 2 | swap x 3", "0=0 100=1", 0, 6}, {"swap x 1 | swap x 2 | swap x 3", "2=2 1=1 0=0", 1, 6},
	} {
		w, a := clerksNamed(c.work), askNamed(c.ask)
		if met, all := impl.Judged(w, a); met != c.met || all != c.all {
			t.Errorf("Judged of %q, %q, is %d, %d; want %d, %d", c.work, c.ask, met, all, c.met, c.all)
		}
		mustJudge(t, w, a, outcomesTold(w))
	}
}

func TestJudgedOfTheGreatestWorks(t *testing.T) {
	begin, met := time.Now(), judging{}
	for _, text := range greatWorks() {
		w := clerksNamed(text)
		outcomes := outcomesTold(w)
		for _, a := range someAsks(w, outcomes) {
			met.add(mustJudge(t, w, a, outcomes))
		}
		// A Deed more, and it is none.
		w[0] = append(w[0], impl.Deed{Kind: impl.DdWait})
		mustJudgeNothing(t, w, impl.Ask{})
	}
	mustHaveMetJudging(t, met)
	if spent := time.Since(begin); spent > time.Minute {
		t.Errorf("it took %v", spent)
	}
}

// mustJudgeNothing wants what is answered to an ask that is refused, of whatever outcome.
func mustJudgeNothing(t *testing.T, w [][]impl.Deed, a impl.Ask) {
	t.Helper()
	if impl.AskOk(w, a) {
		t.Errorf("AskOk of %d clerks, %d and %d numbers, is true", len(w), len(a.Reads), len(a.Values))
	}
	if met, all := impl.Judged(w, a); met != -1 || all != -1 {
		t.Errorf("Judged of %d clerks, %d and %d numbers, is %d, %d", len(w), len(a.Reads), len(a.Values), met, all)
	}
	for n := range 11 {
		if impl.Meets(w, a, make([]int64, n)) || impl.Meets(w, a, a.Values) {
			t.Errorf("Meets of %d clerks, %d and %d numbers, is true", len(w), len(a.Reads), len(a.Values))
		}
	}
}

func TestAskOfWhatIsNoWork(t *testing.T) {
	asks := []impl.Ask{{}, askNamed("100=0"), askNamed("0=0"), askNamed("0=0 1=0 100=1"), askNamed("103=0")}
	works := append(wrongWorks(), make([][]impl.Deed, 1<<20), workOf(make([]impl.Deed, 1<<20)))
	for _, text := range rightWorks() {
		for c, list := range clerksNamed(text) {
			for i := range list {
				w := clerksNamed(text)
				w[c][i].Kind = 5
				works = append(works, w)
			}
		}
	}
	for _, w := range works {
		for _, a := range asks {
			mustJudgeNothing(t, w, a)
		}
	}
}

func TestAskOkByHand(t *testing.T) {
	const five, six, none = "read x; swap x 1; swap y 2 | read x", "read x; read x; read x | read y; read y; read z", "write x 1 | wait; write y 2"
	for _, c := range []struct {
		work, ask string
		want      bool
	}{
		// No pair, six pairs, seven.
		{five, "", true}, {none, "", true}, {"-", "", true}, {six, "0=0 1=0 2=0 3=0 4=0 5=0", true}, {six, "0=0 1=0 2=0 3=0 4=0 5=0 100=0", false}, {six, "0=0 1=0 2=0 100=0 101=0 102=0", true}, {none, "100=1 100=1 100=1 100=1 100=1 100=1", true}, {none, "100=1 100=1 100=1 100=1 100=1 100=1 100=1", false},
		// From 0 to the last read, and the one behind it.
		{five, "0=0", true}, {five, "1=0", true}, {five, "3=0", true}, {five, "4=0", false}, {five, "5=0", false}, {six, "5=0", true}, {six, "6=0", false}, {"read z", "0=0", true}, {"read z", "1=0", false}, {five, "-1=0", false}, {five, "-100=0", false},
		// A work without reads.
		{none, "0=0", false}, {none, "1=0", false}, {none, "-1=0", false}, {none, "100=0 101=0 102=0", true}, {"-", "0=0", false}, {"-", "102=0", true}, {"wait | - | wait", "0=0", false},
		// Places.
		{five, "99=0", false}, {five, "100=0", true}, {five, "101=0", true}, {five, "102=0", true}, {five, "103=0", false}, {five, "10=0", false}, {five, "20=0", false}, {five, "50=0", false}, {five, "200=0", false}, {five, "1000=0", false}, {five, "-102=0", false},
		// Values.
		{five, "0=-1", false}, {five, "0=1", true}, {five, "0=9", true}, {five, "0=10", false}, {five, "102=-1", false}, {five, "102=9", true}, {five, "102=10", false}, {five, "0=100", false}, {five, "0=-9", false},
		// Twice.
		{five, "3=1 3=1", true}, {five, "3=1 3=2", true}, {five, "101=1 101=1", true}, {five, "101=1 101=2", true}, {five, "0=0 100=0", true}, {five, "0=0 100=1", true},
		// One that is refused, first, between and last.
		{five, "4=0 0=0 1=0", false}, {five, "0=0 4=0 1=0", false}, {five, "0=0 1=0 4=0", false}, {five, "0=10 0=0", false}, {five, "0=0 0=10", false},
	} {
		w, a := clerksNamed(c.work), askNamed(c.ask)
		if got := impl.AskOk(w, a); got != c.want || isAsk(w, a) != c.want {
			t.Errorf("AskOk of %q, %q, is %v", c.work, c.ask, got)
		}
	}
}

// readers are works with 0 to 6 reads.
func readers() [][][]impl.Deed {
	works := [][][]impl.Deed{clerksNamed("- | write x 1")}
	for n := 1; n <= 5; n++ {
		works = append(works, workOf(clerkOf(times(n, "read y")...)))
	}
	return append(works, clerksNamed("read x; read y; read z | read x | read x; wait; read x"))
}

// Of each count of pairs, each of them in turn with numbers near and far from what may be asked.
func TestAskOkOfEachNumber(t *testing.T) {
	numbers := slices.Concat(far, upTo(-3, 12), upTo(97, 106), []int64{-100, 48, 52, 57, 148, 150, 256, 1 << 32, 1<<32 + 100, 1<<63 - 100})
	right := 0
	for reads, w := range readers() {
		for pairs := range 8 {
			for at := range pairs {
				for _, n := range numbers {
					a := impl.Ask{}
					for i := range pairs {
						a = with(a, 100+int64(i%3), int64(i))
					}
					a.Reads[at] = n
					if got := impl.AskOk(w, a); got != isAsk(w, a) || got != (pairs < 7 && (n >= 0 && n < int64(reads) || n >= 100 && n <= 102)) {
						t.Fatalf("of %d reads AskOk of %v is %v", reads, a, got)
					} else if got {
						right++
					}
					a.Reads[at], a.Values[at] = 100, n
					if got := impl.AskOk(w, a); got != isAsk(w, a) || got != (pairs < 7 && n >= 0 && n <= 9) {
						t.Fatalf("of %d reads AskOk of %v is %v", reads, a, got)
					}
				}
			}
		}
	}
	if right == 0 {
		t.Error("none is right")
	}
}

// As many Reads as Values, and one more, one less, some more.
func TestAskOkOfUnevenLists(t *testing.T) {
	for _, w := range readers() {
		for reads := range 10 {
			for values := range 10 {
				a := impl.Ask{Reads: slices.Repeat([]int64{102}, reads), Values: make([]int64, values)}
				if got := impl.AskOk(w, a); got != (reads == values && reads <= 6) {
					t.Errorf("AskOk of %d Reads and %d Values is %v", reads, values, got)
				}
				if reads != values || reads > 6 {
					mustJudgeNothing(t, w, a)
				}
			}
		}
	}
}

func TestAsksOfVeryLongLists(t *testing.T) {
	const long = 1 << 20
	w := clerksNamed("read x | write x 1")
	many := make([]int64, long)
	for _, a := range []impl.Ask{{Reads: many, Values: many}, {Reads: many}, {Values: many}, {Reads: many, Values: many[1:]}, {Reads: many[1:], Values: many}, {Reads: many[:1], Values: many}, {Reads: many, Values: many[:1]}, {Reads: many[:7], Values: many[:7]}} {
		mustJudgeNothing(t, w, a)
	}
	if impl.Meets(w, impl.Ask{}, many) || impl.Meets(w, askNamed("0=0"), many) || !impl.Meets(w, askNamed("0=0"), many[:4]) {
		t.Error("one of very many numbers meets it, or one of four does not")
	}
}

func TestMeetsByHand(t *testing.T) {
	const both, six, none = "write x 1; read y | write y 1; read x", "read x; read x; read x | read y; read y; read z", "write x 1 | wait; write y 2"
	for _, c := range []struct {
		work, ask, one string
		want           bool
	}{
		// All these Values, and all but one.
		{both, "", "00110", true}, {both, "", "99999", true}, {both, "0=0", "01110", true}, {both, "0=0", "10110", false}, {both, "1=0", "10110", true}, {both, "1=0", "01110", false}, {both, "0=0 1=0 100=1", "00110", true}, {both, "0=0 1=0 100=1", "10110", false}, {both, "0=0 1=0 100=1", "01110", false}, {both, "0=0 1=0 100=1", "00010", false}, {both, "0=0 1=0 100=1", "00199", true},
		// A place stands behind all reads, and is none of them.
		{both, "0=3 1=4 100=5 101=6 102=7", "34567", true}, {both, "102=7 101=6 100=5 1=4 0=3", "34567", true}, {both, "100=3", "34567", false}, {both, "101=4", "34567", false}, {both, "0=5", "34567", false}, {both, "1=6", "34567", false}, {both, "102=6", "34567", false}, {both, "101=7", "34567", false}, {both, "102=8", "34567", false},
		{six, "0=1 1=2 2=3 3=4 4=5 5=6", "123456789", true}, {six, "100=7 101=8 102=9 5=6", "123456789", true}, {six, "5=7", "123456789", false}, {six, "100=6", "123456789", false}, {six, "0=1 1=2 2=3 3=4 4=5 5=7", "123456789", false}, {six, "0=2 1=2 2=3 3=4 4=5 5=6", "123456789", false},
		{none, "100=1 101=2 102=0", "120", true}, {none, "100=2", "120", false}, {none, "101=1", "120", false}, {none, "102=2", "120", false}, {"-", "", "000", true}, {"-", "102=0", "000", true}, {"-", "102=1", "000", false}, {"-", "102=1", "001", true},
		// Twice.
		{both, "0=0 0=0", "00110", true}, {both, "0=0 0=1", "00110", false}, {both, "0=1 0=0", "00110", false}, {both, "101=1 101=1", "00110", true}, {both, "101=1 101=0", "00110", false},
		// Shorter and longer than outcomes are, by one and more, though it has what is asked.
		{both, "", "0011", false}, {both, "", "001100", false}, {both, "", "", false}, {both, "", "0", false}, {both, "0=0", "0011", false}, {both, "0=0", "001100", false}, {both, "0=0", "0", false}, {both, "0=0", "001", false}, {both, "102=0", "0011", false}, {both, "102=0", "001100", false}, {none, "", "12", false}, {none, "", "1200", false}, {none, "", "", false}, {"-", "", "", false}, {"-", "", "00", false}, {"-", "", "0000", false}, {six, "", "12345678", false}, {six, "", "1234567890", false}, {six, "5=6", "123456", false},
		// Not AskOk, whatever the outcome has.
		{both, "2=1", "00110", false}, {both, "-1=0", "00110", false}, {both, "99=0", "00110", false}, {both, "103=0", "00110", false}, {both, "104=0", "00110", false}, {both, "0=-1", "-0110", false}, {both, "102=-1", "0011-", false}, {both, "0=0 2=1", "00110", false}, {both, "2=1 0=0", "00110", false}, {both, "0=0 0=0 0=0 0=0 0=0 0=0", "00110", true}, {both, "0=0 0=0 0=0 0=0 0=0 0=0 0=0", "00110", false}, {none, "0=1", "120", false},
		// What no end has is no less an outcome as long as they are; what stands where nothing is asked is not looked at.
		{both, "0=0", "0----", true}, {both, "0=0", "-----", false}, {both, "102=5", "----5", true}, {both, "", "-----", true},
	} {
		w, a, one := clerksNamed(c.work), askNamed(c.ask), digitsNamed(c.one)
		if got := impl.Meets(w, a, one); got != c.want || hasValues(w, a, one) != c.want {
			t.Errorf("Meets of %q, %q, %q, is %v", c.work, c.ask, c.one, got)
		}
	}
	w := clerksNamed("read x")
	if impl.Meets(w, impl.Ask{Reads: []int64{0}, Values: []int64{10}}, []int64{10, 0, 0, 0}) || impl.Meets(w, impl.Ask{}, nil) {
		t.Error("what is not right meets it")
	}
	for _, n := range far {
		if !impl.Meets(w, askNamed("100=1"), []int64{n, 1, n, n}) || impl.Meets(w, askNamed("0=0"), []int64{n, 0, 0, 0}) {
			t.Errorf("an outcome of %d", n)
		}
	}
}

// Of works of 0 to 6 reads: the outcome has a number of its own at each seat, and all lists off by one number are asked, too.
func TestMeetsOfEachSeat(t *testing.T) {
	took, refused := 0, 0
	for _, w := range readers() {
		one := upTo(1, int64(readsIn(w...)+3))
		for _, a := range append(onePair(w), fromOutcome(w, one)...) {
			for _, other := range append(oneOff(one, []int64{0, 1, 9, 10, -1}), one) {
				got := impl.Meets(w, a, other)
				if got != hasValues(w, a, other) {
					t.Fatalf("Meets(%v, %v, %v) = %v", w, a, other, got)
				}
				if got {
					took++
				} else {
					refused++
				}
			}
		}
	}
	if took < 500 || refused < took {
		t.Errorf("%d meet it, %d do not", took, refused)
	}
}

// askedText is the text of an ask that can be asked of some work.
func askedText(a impl.Ask) string {
	words := []string{}
	for i, at := range a.Reads {
		name := fmt.Sprint(at)
		if at >= 100 {
			name = string(rune('x' + at - 100))
		}
		words = append(words, fmt.Sprint(name, "=", a.Values[i]))
	}
	return strings.Join(words, " ")
}

// askWords has all words of which an ask's text is made, and the pair of each.
func askWords() map[string][2]int64 {
	words := map[string][2]int64{}
	for at, name := range map[int64]string{0: "0", 1: "1", 2: "2", 3: "3", 4: "4", 5: "5", 100: "x", 101: "y", 102: "z"} {
		for value, digit := range append([]string{"0"}, digits()...) {
			words[name+"="+digit] = [2]int64{at, int64(value)}
		}
	}
	return words
}

var knownAskWords = askWords()

// askTold goes by where the words must stand, as all of them are of three bytes.
func askTold(text string) (impl.Ask, bool) {
	a := impl.Ask{}
	if len(text) > 23 || len(text)%4 != 3 {
		return impl.Ask{}, false
	}
	for at := 0; at < len(text); at += 4 {
		pair, is := knownAskWords[text[at:at+3]]
		if !is || at > 0 && text[at-1] != ' ' {
			return impl.Ask{}, false
		}
		a = with(a, pair[0], pair[1])
	}
	return a, true
}

// mustReadAsk answers whether the text is some ask's.
func mustReadAsk(t *testing.T, text string) bool {
	t.Helper()
	want, is := askTold(text)
	if got, ok := impl.ReadAsk(text); ok != is || !sameAsk(got, want) {
		t.Fatalf("ReadAsk(%q) = %v, %v; want %v, %v", text, got, ok, want, is)
	}
	return is
}

func mustNotReadAsk(t *testing.T, text string) {
	t.Helper()
	if a, ok := impl.ReadAsk(text); ok || len(a.Reads)+len(a.Values) != 0 {
		t.Errorf("ReadAsk of %d bytes, %.40q, is %v, %v", len(text), text, a, ok)
	}
}

// Each read and each place with each Value, alone and two of them in both orders.
func TestReadAskOfEachWord(t *testing.T) {
	if len(knownAskWords) != 90 {
		t.Fatalf("%d words", len(knownAskWords))
	}
	for one, pair := range knownAskWords {
		a, is := impl.ReadAsk(one)
		if !is || !sameList(a.Reads, pair[:1]) || !sameList(a.Values, pair[1:]) || askedText(a) != one {
			t.Errorf("ReadAsk(%q) = %v, %v", one, a, is)
		}
		for other, behind := range knownAskWords {
			a, is := impl.ReadAsk(one + " " + other)
			if !is || !sameList(a.Reads, []int64{pair[0], behind[0]}) || !sameList(a.Values, []int64{pair[1], behind[1]}) {
				t.Errorf("ReadAsk(%q) = %v, %v", one+" "+other, a, is)
			}
			mustReadAsk(t, one+" "+other)
			mustNotReadAsk(t, one+other)
			mustNotReadAsk(t, one+"  "+other)
			mustNotReadAsk(t, one+"\t"+other)
		}
	}
}

// The order of the pairs stays, of up to six of them; seven are refused.
func TestReadAskOfManyWords(t *testing.T) {
	words := []string{"5=9", "x=0", "0=0", "z=9", "1=5", "y=3", "x=0", "2=2", "4=8", "3=1", "5=9"}
	for from := range words {
		for behind := from + 1; behind <= len(words); behind++ {
			text := strings.Join(words[from:behind], " ")
			a, is := impl.ReadAsk(text)
			if is != (behind-from <= 6) || is && askedText(a) != text || !is && len(a.Reads)+len(a.Values) != 0 {
				t.Errorf("ReadAsk(%q) = %v, %v", text, a, is)
			}
			mustReadAsk(t, text)
		}
	}
	for word := range knownAskWords {
		if !mustReadAsk(t, strings.Join(times(6, word), " ")) || mustReadAsk(t, strings.Join(times(7, word), " ")) {
			t.Errorf("%q, six times and seven times", word)
		}
	}
}

func TestReadAskByHand(t *testing.T) {
	for _, c := range []struct{ text, want string }{
		{"0=0", "0=0"}, {"5=9", "5=9"}, {"x=1", "100=1"}, {"y=0", "101=0"}, {"z=9", "102=9"},
		{"0=0 1=0 x=1", "0=0 1=0 100=1"}, {"x=1 1=0 0=0", "100=1 1=0 0=0"}, {"z=3 y=2 x=1", "102=3 101=2 100=1"}, {"5=5 4=4 3=3 2=2 1=1 0=0", "5=5 4=4 3=3 2=2 1=1 0=0"},
		// The same one twice, with the same Value and with another one.
		{"2=7 2=7", "2=7 2=7"}, {"2=7 2=8", "2=7 2=8"}, {"y=1 y=1 y=2", "101=1 101=1 101=2"},
	} {
		if a, is := impl.ReadAsk(c.text); !is || !sameAsk(a, askNamed(c.want)) {
			t.Errorf("ReadAsk(%q) = %v, %v", c.text, a, is)
		}
	}
	// The work is not asked: who has no such read refuses the ask.
	a, is := impl.ReadAsk("5=0")
	if w := clerksNamed("read x | write x 1"); !is || impl.AskOk(w, a) {
		t.Error("a read that the work has not")
	}
	if w := clerksNamed("read x; read x; read x | read y; read y; read z"); !impl.AskOk(w, a) {
		t.Error("a read that the work has")
	}
}

func TestReadAskOfWrongTextsByHand(t *testing.T) {
	for _, text := range []string{
		"", " ", "  ", "=", "==", "0", "x", "0=", "=0", "x=", "=x", "x0", "0x", "00", "0=0=", "=0=0", "-", "\n", "\x00", "\x00\x00\x00",
		// A read that there is none of, of two digits, with a nought or a - ahead.
		"6=0", "7=0", "8=0", "9=0", "10=0", "55=0", "00=0", "01=0", "05=0", "-1=0", "-0=0", "+1=0", "100=0", "101=0", "102=0", "1e=0", "0.=0", "a=0", "w=0", "{=0", "X=0", "Y=0", "Z=0", "xy=0", "xyz=0", "xx=0", "x1=0", "1x=0", "/=0", ":=0",
		// A Value that there is none of.
		"0=10", "x=10", "0=00", "x=00", "0=01", "x=09", "0=-1", "x=-0", "0=+1", "0=99", "0=x", "x=y", "0=a", "0=/", "0=:", "0= ", "x=\x00", "0=1.", "0=1;", "0=1,",
		// An = that lacks, two of them, another sign, blanks around it.
		"00 ", "0 0", "x 1", "x-1", "0:0", "0<0", "0>0", "x==1", "x=1=", "=x=1", "x=1=1", "x =1", "x= 1", "x = 1", "x=1x=1", "x=1=x=1", "x=1 =", "= x=1", "x=1 = x=1", "x=1 x", "x x=1", "x=1 1", "x=1 =1", "x=1 x=",
		// Blanks at the beginning, at the end, two between, and others than blanks.
		" x=1", "x=1 ", " x=1 ", "x=1  x=1", "x=1   x=1", "x=1\tx=1", "x=1\nx=1", "x=1\n", "\nx=1", "x=1,x=1", "x=1;x=1", "x=1; x=1", "x=1 | x=1", "x=1\rx=1", "x=1\x00x=1", "x=1_x=1", "x=1\xa0x=1", "x=1\u00a0x=1", "x=1 x=1 ", " x=1 x=1",
		// A word that is wrong among those that are right, first, between and last.
		"6=0 x=1", "x=1 6=0", "x=1 6=0 y=1", "x=1 w=1", "w=1 x=1", "x=1 0=10", "0=10 x=1", "x=1 x=1 x=1 x=1 x=1 6=1", "x=1 x=1 x=1 x=1 x=1 x=1 ", "x=1 x=1 x=1 x=1 x=1  x=1",
		// Seven, and more.
		"0=0 1=0 2=0 3=0 4=0 5=0 x=0", "x=1 x=1 x=1 x=1 x=1 x=1 x=1", "x=1 x=1 x=1 x=1 x=1 x=1 x=1 x=1", "x=1 x=1 x=1 x=1 x=1 x=1 w=1", "x=1 x=1 x=1 x=1 x=1 x=1 x", "x=1 x=1 x=1 x=1 x=1 x=1\n",
		// Bytes past 127 and what looks alike; a byte is no digit because it is as far from 0 as a place's number is.
		"\xff=0", "\x94=0", "\x95=0", "\x96=0", "x=\xff", "0=\x94", "x\xff=", "\xff", "\u0660=0", "0=\u0660", "0\uff1d0", "\uff10=0", "x\u22121", "\u0445=1", "\ufeffx=1", "x=\u00b2",
	} {
		mustNotReadAsk(t, text)
		mustReadAsk(t, text)
	}
}

// Of each such text: one byte taken away, another one in its place, one more.
func TestReadAskOneByteOff(t *testing.T) {
	read := 0
	for _, text := range []string{"0=0", "x=9", "5=1 z=0", "y=5 y=5 2=3", "0=0 1=1 2=2 3=3 4=4 5=5", "x=1 y=2 z=3 5=4 0=6 1=0"} {
		if !mustReadAsk(t, text) {
			t.Errorf("%q should be some ask's", text)
		}
		for at := 0; at <= len(text); at++ {
			if at < len(text) {
				mustNotReadAsk(t, text[:at]+text[at+1:])
			}
			for b := range 256 {
				one := string([]byte{byte(b)})
				mustNotReadAsk(t, text[:at]+one+text[at:])
				if at < len(text) && mustReadAsk(t, text[:at]+one+text[at+1:]) {
					read++
				}
			}
		}
	}
	if read == 0 {
		t.Error("no other ask was met")
	}
}

// All bytes at each two places of a word.
func TestReadAskOfShortTexts(t *testing.T) {
	read := [3]int{}
	for a := range 256 {
		mustNotReadAsk(t, string([]byte{byte(a)}))
		for b := range 256 {
			mustNotReadAsk(t, string([]byte{byte(a), byte(b)}))
			for i, word := range [3][]byte{{byte(a), '=', byte(b)}, {'x', byte(a), byte(b)}, {byte(a), byte(b), '0'}} {
				if mustReadAsk(t, string(word)) {
					read[i]++
				}
			}
		}
	}
	if read != [3]int{90, 10, 9} {
		t.Errorf("read: %v", read)
	}
}

// askPieces asks of the text and of all that come of it by at most that many pieces more, and tells how many are some ask's.
func askPieces(t *testing.T, text string, pieces []string, more int) int {
	read := 0
	if mustReadAsk(t, text) {
		read++
	}
	for _, piece := range pieces {
		if more > 0 {
			read += askPieces(t, text+piece, pieces, more-1)
		}
	}
	return read
}

func TestReadAskOfPieces(t *testing.T) {
	if read := askPieces(t, "", []string{"0", "5", "6", "x", "=", "9", " "}, 6); read == 0 {
		t.Error("no ask was met")
	}
	if read := askPieces(t, "", []string{"0=1", "x=9", " ", "1", "="}, 7); read == 0 {
		t.Error("no ask was met")
	}
	// By these alone one comes to seven words.
	if read := askPieces(t, "z=0", []string{" 5=5", " "}, 8); read != 6 {
		t.Errorf("%d asks were met", read)
	}
}

func TestReadAskOfLongTexts(t *testing.T) {
	const long = 1 << 20
	for _, one := range []string{"0", "x", "=", " ", "0=0", "x=1 ", " x=1", "= ", "\xff", "x=1\n", "\x00"} {
		mustNotReadAsk(t, strings.Repeat(one, long/len(one)))
	}
	mustNotReadAsk(t, "x="+strings.Repeat("0", long)+"1")
	mustNotReadAsk(t, strings.Repeat("0", long)+"=1")
	mustNotReadAsk(t, "x=1 x=1"+strings.Repeat(" ", long))
	mustNotReadAsk(t, strings.Repeat(" ", long)+"x=1")
	mustNotReadAsk(t, "x=1"+strings.Repeat(" x=1", long))
}

// A text may be a piece of a longer one: what stands around it is not asked.
func TestReadAskOfAPiece(t *testing.T) {
	whole := "5=0 x=1 z"
	for from := range len(whole) {
		for behind := from; behind <= len(whole); behind++ {
			mustReadAsk(t, whole[from:behind])
		}
	}
	if a, is := impl.ReadAsk(whole[:7]); !is || !sameAsk(a, askNamed("5=0 100=1")) {
		t.Error(a, is)
	}
}

// What is read of the text of an ask that is AskOk is that ask.
func TestReadAskOfWhatIsAskOk(t *testing.T) {
	read := 0
	for _, w := range readers() {
		one := upTo(1, int64(readsIn(w...)+3))
		for _, a := range append(onePair(w), fromOutcome(w, one)...) {
			if !impl.AskOk(w, a) {
				continue
			}
			read++
			if got, is := impl.ReadAsk(askedText(a)); !is || !sameAsk(got, a) {
				t.Errorf("ReadAsk(%q) = %v, %v", askedText(a), got, is)
			}
		}
	}
	if read == 0 {
		t.Error("none was read")
	}
}

func TestReadAskIsNewMemory(t *testing.T) {
	for _, text := range []string{"0=0", "x=9", "0=0 1=0 x=1", "5=5 4=4 3=3 2=2 1=1 0=0", "", "6=0", "x=1 w=1", "x=1 x=1 x=1 x=1 x=1 x=1 x=1", "x=1 x=1 "} {
		one, _ := impl.ReadAsk(text)
		other, _ := impl.ReadAsk(text)
		want := copiedAsk(other)
		mustLieApart(t, []span{spanOf(one.Reads), spanOf(one.Values)}, []span{spanOf(other.Reads), spanOf(other.Values)}, text)
		spoil(one.Reads)
		if !sameList(one.Values, want.Values) || !sameAsk(other, want) {
			t.Errorf("the lists of ReadAsk(%q) share memory", text)
		}
		spoil(one.Values)
		if !sameAsk(other, want) {
			t.Errorf("two answers of ReadAsk(%q) share memory", text)
		}
		mustReadAsk(t, text)
	}
}

func TestJudgingLeavesItsArgumentsAlone(t *testing.T) {
	for _, w := range append(memoryWorks(), wrongWorks()...) {
		l := laid(w)
		before := l.copied()
		outcomes := outcomesTold(w)
		for _, a := range append(someAsks(w, outcomes), askNamed("0=0 100=1"), askNamed("103=0"), askNamed("0=10"), askNamed("100=0 101=0 102=0 100=0 101=0 102=0 100=0")) {
			reads, roomReads := roomy(a.Reads)
			values, roomValues := roomy(a.Values)
			wereReads, wereValues := copied(roomReads), copied(roomValues)
			given := impl.Ask{Reads: reads, Values: values}
			mustJudge(t, l.given, given, outcomes)
			for _, one := range append(slices.Clone(outcomes), nil, []int64{0, 0, 0}) {
				some, room := roomy(one)
				were := copied(room)
				if got := impl.Meets(l.given, given, some); got != hasValues(w, a, one) || !sameList(room, were) {
					t.Fatalf("Meets(%v, %v, %v) = %v, and leaves %v", w, a, one, got, room)
				}
			}
			if !l.isAs(before) || !sameList(roomReads, wereReads) || !sameList(roomValues, wereValues) {
				t.Fatalf("of %v and %v is left %v, %v and %v", w, a, l.clerks, roomReads, roomValues)
			}
		}
	}
}

// One list may be both an ask's, and the outcome, too.
func TestJudgingOfOneMemory(t *testing.T) {
	w := clerksNamed("read x; read y | write x 1; write y 2 | read z")
	outcomes, memory := outcomesTold(w), []int64{0, 1, 2, 1, 0, 2, 1, 0, 0, 2}
	before, took := copied(memory), 0
	for from := range memory {
		for behind := from; behind <= len(memory); behind++ {
			list := memory[from:behind]
			for at := range len(memory) - len(list) + 1 {
				a := impl.Ask{Reads: list, Values: memory[at : at+len(list)]}
				mustJudge(t, w, a, outcomes)
				for start := range len(memory) - 5 {
					one := memory[start : start+6]
					if got := impl.Meets(w, a, one); got != hasValues(w, a, one) {
						t.Fatalf("Meets(%v, %v, %v) = %v", w, a, one, got)
					} else if got && len(list) > 1 {
						took++
					}
				}
			}
		}
	}
	if !sameList(memory, before) || took == 0 {
		t.Errorf("left is %v; %d met it", memory, took)
	}
}

// What is judged is the same however often it is asked, and is asked of what the work and the ask are now.
func TestJudgedAgain(t *testing.T) {
	w, a := clerksNamed("write x 1; read y | write y 1; read x"), askNamed("0=0 1=0")
	outcomes := outcomesTold(w)
	for range 20 {
		mustJudge(t, w, a, outcomes)
	}
	a.Values[1] = 7
	mustJudge(t, w, a, outcomes)
	w[0][0].Value = 7
	mustJudge(t, w, a, outcomesTold(w))
	if met, all := impl.Judged(w, a); met != 1 || all != 4 {
		t.Errorf("Judged(%v, %v) = %d, %d", w, a, met, all)
	}
	a.Values[1] = 10
	mustJudgeNothing(t, w, a)
	a.Values[1], w[0][0].Value = 7, 10
	mustJudgeNothing(t, w, a)
}
