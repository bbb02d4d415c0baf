package tests

import (
	"slices"
	"testing"

	"loop.example/g00411/impl"
)

// isRows cuts the list into the parts of the three places, and asks of each event by itself whether it should be in a part, and how often it is.
func isRows(list []impl.Event, rows []int64) bool {
	if len(list) == 0 {
		return false
	}
	rest := rows
	for place := range int64(3) {
		size := len(writesTold(list, place))
		if len(rest) < size || rest[0] != place {
			return false
		}
		part := rest[:size]
		rest = rest[size:]
		for n, e := range list {
			want := 0
			if !e.Reads && e.Place == place {
				want = 1
			}
			if timesIn(part, int64(n)) != want {
				return false
			}
		}
	}
	// As many as there are writes, each of them once: there is no room for a number that is no event.
	return len(rest) == 0
}

func timesIn(list []int64, one int64) int {
	n := 0
	for _, other := range list {
		if other == one {
			n++
		}
	}
	return n
}

// waysToOrder are the orders that so many can stand in.
func waysToOrder(n int) int64 {
	ways := int64(1)
	for i := 2; i <= n; i++ {
		ways *= int64(i)
	}
	return ways
}

func rowsCounted(list []impl.Event) int64 {
	if len(list) == 0 {
		return -1
	}
	n := int64(1)
	for place := range int64(3) {
		n *= waysToOrder(len(writesTold(list, place)) - 1)
	}
	return n
}

// orderTold takes n as a number: how many times the orders of the others go into it tells which one is next.
func orderTold(some []int64, n int64) []int64 {
	left, order := copied(some), []int64{}
	for len(left) > 0 {
		ways := waysToOrder(len(left) - 1)
		at := n / ways
		order, n = append(order, left[at]), n%ways
		left = append(left[:at], left[at+1:]...)
	}
	return order
}

// rowsTold has a digit of n for each place, the last place's behind.
func rowsTold(list []impl.Event, n int64) []int64 {
	if n < 0 || n >= rowsCounted(list) {
		return nil
	}
	rows := []int64{}
	for place := int64(2); place >= 0; place-- {
		others := writesTold(list, place)[1:]
		ways := waysToOrder(len(others))
		rows = append(append([]int64{place}, orderTold(others, n%ways)...), rows...)
		n /= ways
	}
	return rows
}

// rowWebTold asks of each two events where they stand.
func rowWebTold(list []impl.Event, rows []int64) []int64 {
	if !isRows(list, rows) {
		return nil
	}
	return drawn(len(list), func(i, j int) bool {
		one, other := slices.Index(rows, int64(i)), slices.Index(rows, int64(j))
		return one >= 0 && one < other && list[i].Place == list[j].Place
	})
}

// mustJudgeRows answers whether the list is a rows.
func mustJudgeRows(t *testing.T, w [][]impl.Deed, list []impl.Event, rows []int64) bool {
	t.Helper()
	is := isRows(list, rows)
	if got := impl.RowsOk(w, rows); got != is {
		t.Fatalf("RowsOk(%v, %v) = %v", w, rows, got)
	}
	if got, want := impl.RowWeb(w, rows), rowWebTold(list, rows); !sameList(got, want) {
		t.Fatalf("RowWeb(%v, %v) = %v, want %v", w, rows, got, want)
	}
	return is
}

// mustHaveRows holds all that chapter 9 tells of a work, or of what is none, against what the test tells; it answers all rows, by how they are found.
func mustHaveRows(t *testing.T, w [][]impl.Deed) map[listKey]int64 {
	t.Helper()
	list, met := eventsTold(w), map[listKey]int64{}
	count := rowsCounted(list)
	if got := impl.RowsCount(w); got != count {
		t.Fatalf("RowsCount(%v) = %d, want %d", w, got, count)
	}
	before := []int64{}
	for n := range max(count, 0) {
		rows := impl.RowsAt(w, n)
		if want := rowsTold(list, n); !sameList(rows, want) {
			t.Fatalf("RowsAt(%v, %d) = %v, want %v", w, n, rows, want)
		}
		if n > 0 && slices.Compare(before, rows) >= 0 {
			t.Fatalf("RowsAt(%v, %d) = %v, behind %v", w, n, rows, before)
		}
		if at, is := met[keyOf(rows)]; is {
			t.Fatalf("RowsAt(%v, %d) = %v, as at %d", w, n, rows, at)
		}
		met[keyOf(rows)] = n
		if !mustJudgeRows(t, w, list, rows) {
			t.Fatalf("RowsAt(%v, %d) = %v, which is none", w, n, rows)
		}
		before = rows
	}
	for _, n := range append([]int64{-2, -1, -count, count, count + 1, 2*count + 7, 1 << 32, 1<<32 + count - 1, -1 << 32}, far...) {
		if got := impl.RowsAt(w, n); (n < 0 || n >= count) && len(got) != 0 {
			t.Fatalf("RowsAt(%v, %d) = %v", w, n, got)
		}
	}
	for _, rows := range [][]int64{nil, {0}, {0, 1}, {0, 1, 2}, {0, 1, 2, 3}} {
		mustJudgeRows(t, w, list, rows)
	}
	return met
}

// mustFindAll asks each of the lists, all of the length of a rows, and wants all rows among them.
func mustFindAll(t *testing.T, w [][]impl.Deed, lists [][]int64) {
	t.Helper()
	met, list := mustHaveRows(t, w), eventsTold(w)
	found := 0
	for _, rows := range lists {
		_, told := met[keyOf(rows)]
		if is := mustJudgeRows(t, w, list, rows); is != told {
			t.Fatalf("of %v: %v is a rows: %v, and told: %v", w, rows, is, told)
		}
		if told {
			found++
		}
	}
	if found != len(met) {
		t.Fatalf("of %v: %d of %d rows found", w, found, len(met))
	}
}

// mustTellAllRows asks every list of as many numbers as there are writes, from one below the first event to one past the last.
func mustTellAllRows(t *testing.T, w [][]impl.Deed) {
	t.Helper()
	events := eventsTold(w)
	mustFindAll(t, w, listsOf(len(events)-len(readsTold(events)), -1, int64(len(events))+1))
}

// mustTellAllOrders asks every order of all writes, whatever their places.
func mustTellAllOrders(t *testing.T, w [][]impl.Deed) {
	t.Helper()
	writes := []int64{}
	for n, e := range eventsTold(w) {
		if !e.Reads {
			writes = append(writes, int64(n))
		}
	}
	lists := [][]int64{}
	for n := range waysToOrder(len(writes)) {
		lists = append(lists, orderTold(writes, n))
	}
	mustFindAll(t, w, lists)
}

// someRows are all, or where there are many the first, the last and some between.
func someRows(w [][]impl.Deed) [][]int64 {
	list := eventsTold(w)
	count := rowsCounted(list)
	step := max(1, count/20)
	some := [][]int64{}
	for n := int64(0); n < count; n += step {
		some = append(some, rowsTold(list, n))
	}
	return append(some, rowsTold(list, count-1))
}

// mustRefuseRowsOff takes rows and puts another number in one seat, changes two for each other, takes one away and puts one more.
func mustRefuseRowsOff(t *testing.T, w [][]impl.Deed) {
	t.Helper()
	list := eventsTold(w)
	others := append([]int64{12, 63, 64, 1 << 32}, far...)
	for n := int64(-2); n < int64(len(list))+2; n++ {
		others = append(others, n)
	}
	for _, rows := range someRows(w) {
		for i := range rows {
			if shorter := append(copied(rows[:i]), rows[i+1:]...); mustJudgeRows(t, w, list, shorter) {
				t.Fatalf("of %v: %v is a rows", w, shorter)
			}
			for _, other := range others {
				changed := copied(rows)
				changed[i] = other
				if mustJudgeRows(t, w, list, changed) && other != rows[i] {
					t.Fatalf("of %v: %v is a rows", w, changed)
				}
			}
			for j := range i {
				changed := copied(rows)
				changed[i], changed[j] = rows[j], rows[i]
				mustJudgeRows(t, w, list, changed)
			}
		}
		for _, other := range others {
			for i := range len(rows) + 1 {
				longer := append(append(copied(rows[:i]), other), rows[i:]...)
				if mustJudgeRows(t, w, list, longer) {
					t.Fatalf("of %v: %v is a rows", w, longer)
				}
			}
		}
	}
}

// Promise 9: one clerk, each list that could be a rows.
func TestAllRowsOfOneClerkAreTold(t *testing.T) {
	for _, one := range clerksOf(clerkOf("write x 1", "write y 2", "swap x 3", "read z", "wait", "write z 4 in 1"), 2) {
		mustTellAllRows(t, workOf(one))
	}
	mustTellAllRows(t, clerksNamed("write y 1; write y 2; write y 3"))
	mustTellAllRows(t, clerksNamed("- | write z 1; write x 2; write z 3"))
}

// Promise 9: two and three clerks, each list that could be a rows.
func TestAllRowsOfSeveralClerksAreTold(t *testing.T) {
	some := append(clerksOf(clerkOf("read x", "write x 1", "swap z 2"), 1), clerkOf("wait", "write z 5"))
	for _, one := range some {
		for _, two := range some {
			mustTellAllRows(t, workOf(one, two))
			for _, three := range some {
				w := workOf(one, two, three)
				mustTellAllOrders(t, w)
				mustRefuseRowsOff(t, w)
			}
		}
	}
	mustTellAllRows(t, clerksNamed("write x 1 | write x 2 | write x 3"))
	mustTellAllRows(t, clerksNamed("write y 1 | write x 2 | write y 3"))
	mustTellAllRows(t, clerksNamed("write z 1 | write y 2 | write x 3"))
}

// Promise 9: more writes, in whatever order they stand.
func TestAllOrdersThatAreRowsAreTold(t *testing.T) {
	for _, one := range clerksOf(clerkOf("write x 1", "write y 2", "swap y 3", "read x"), 3) {
		mustTellAllOrders(t, workOf(one))
		mustRefuseRowsOff(t, workOf(one))
	}
	for _, text := range []string{
		"write x 1; write x 2 | write x 3; write x 4", "write z 1; write y 2; write z 3; write y 4", "write x 1; write y 2 | write z 3 | write y 4",
		"write x 1; write x 2; write x 3 | write y 4; write y 5", "swap z 1 | swap z 2; write z 3 | write x 4", "write z 1; write z 2; write z 3; write z 4; write z 5",
	} {
		mustTellAllOrders(t, clerksNamed(text))
		mustRefuseRowsOff(t, clerksNamed(text))
	}
}

// Promise 9: more of one clerk, and mixes with clerks that are not right.
func TestRowsOfManyWorks(t *testing.T) {
	met := map[int]int{}
	for _, one := range clerksOf(clerkOf("write x 1", "write y 2", "read y", "swap x 3", "write x 4 in 1"), 5) {
		met[len(mustHaveRows(t, workOf(one)))]++
	}
	for _, one := range mixedClerks() {
		for _, two := range mixedClerks() {
			met[len(mustHaveRows(t, workOf(one, two)))]++
			met[len(mustHaveRows(t, workOf(two, nil, one)))]++
		}
	}
	// So many of one clerk's five Deeds, and none of what is no work.
	for _, n := range []int{0, 1, 2, 4, 6, 12, 24, 120} {
		if met[n] == 0 {
			t.Errorf("no work with %d rows", n)
		}
	}
}

// Each right Deed beside others, and each one that is one number off.
func TestRowsOfEveryDeed(t *testing.T) {
	for d := range shownDeeds {
		mustTellAllOrders(t, workOf([]impl.Deed{d}))
		mustHaveRows(t, workOf([]impl.Deed{d, d}, nil, []impl.Deed{d}))
		mustHaveRows(t, workOf(clerkOf("write x 1", "write y 2"), append(clerkOf("swap z 1"), d)))
		kind, place, value, group := d, d, d, d
		for _, n := range append([]int64{-1, 1, 2, 4, 9}, far...) {
			kind.Kind, place.Place, value.Value, group.Group = d.Kind+n, d.Place+n, d.Value+n, d.Group+n
			for _, other := range []impl.Deed{kind, place, value, group} {
				mustHaveRows(t, workOf([]impl.Deed{other}))
				mustHaveRows(t, workOf(clerkOf("write x 1", "write y 2"), []impl.Deed{d, other}))
			}
		}
	}
}

func TestRowsAtEachLimit(t *testing.T) {
	for _, one := range evenClerks(6) {
		for _, two := range evenClerks(6) {
			mustHaveRows(t, workOf(one, two))
			mustHaveRows(t, workOf(one, two, one))
		}
	}
}

// Six events: writes of each number, the others reads, all at one place, by one clerk and by more.
func TestRowsOfSixEvents(t *testing.T) {
	for writes, want := range []int64{1, 1, 2, 6, 24, 120, 720} {
		all := append(times(6-writes, "read y"), times(writes, "write y 7")...)
		for parted := 1; parted <= 5; parted++ {
			w := workOf(clerkOf(all[:parted]...), clerkOf(all[parted:]...))
			if got := impl.RowsCount(w); got != want {
				t.Errorf("RowsCount(%v) = %d, want %d", w, got, want)
			}
			mustHaveRows(t, w)
			mustRefuseRowsOff(t, w)
		}
	}
	for _, text := range []string{
		"swap x 1; swap x 2; swap x 3", "swap x 1 | swap x 2 | swap x 3", "swap x 1; swap y 2 | swap z 3", "swap z 1; write z 2 | write z 4; swap y 3",
		"write x 4; write y 5; write z 6 | write x 1; write y 2; write z 3", "write z 1; read z; write z 2; write y 4; write x 3 | write z 5",
		"read x in 1; write x 2 in 1; write y 4 in 1 | read x in 2; write x 3 in 2; write y 5 in 2",
	} {
		mustHaveRows(t, clerksNamed(text))
		mustRefuseRowsOff(t, clerksNamed(text))
	}
}

// Six writes, at one, two and three places: how many, and all orders of the nine writes.
func TestRowsOfSixWrites(t *testing.T) {
	for text, want := range map[string]int64{
		"write x 1; write x 2; write x 3 | write x 4; write x 5; write x 6":     720,
		"write y 1; write y 2 | write y 3; write y 4 | write y 5; write y 6":    720,
		"write z 1; write z 2; write z 3; write z 4; write z 5 | - | write z 6": 720,
		"write x 1; write z 2 | write x 3; write z 4 | write x 5; write x 6":    48,
		"write y 1; write y 2; write y 3 | write z 4; write z 5; write z 6":     36,
		"write x 1; write y 2; write z 3 | write x 4; write y 5; write z 6":     8,
		"write x 1; write y 2; write z 3 | write x 4; write x 5; write x 6":     24,
	} {
		w := clerksNamed(text)
		if got := impl.RowsCount(w); got != want {
			t.Errorf("RowsCount(%q) = %d, want %d", text, got, want)
		}
		mustHaveRows(t, w)
	}
	mustTellAllOrders(t, clerksNamed("write x 1; write y 2; write z 3 | write x 4; write y 5; write x 6"))
}

// With no writes there is one rows, the first three alone.
func TestRowsOfNoWrites(t *testing.T) {
	for _, text := range []string{"-", "- | -", "- | - | -", "wait", "wait; wait | - | wait", "read x", "read z; read y | read x", "read y in 1; read y in 1 | - | read z", "read x; read x; read x; read x; read x | read x"} {
		w := clerksNamed(text)
		if n, rows := impl.RowsCount(w), impl.RowsAt(w, 0); n != 1 || !sameList(rows, []int64{0, 1, 2}) {
			t.Errorf("%q has %d rows, the first one %v", text, n, rows)
		}
		if got, want := impl.RowWeb(w, []int64{0, 1, 2}), emptyWeb(3+int(impl.EventsIn(w))); !sameList(got, want) {
			t.Errorf("RowWeb(%q) = %v", text, got)
		}
		mustTellAllRows(t, w)
		for length := range 5 {
			for _, rows := range listsOf(length, -1, 4) {
				if is := impl.RowsOk(w, rows); is != sameList(rows, []int64{0, 1, 2}) {
					t.Errorf("RowsOk(%q, %v) = %v", text, rows, is)
				}
			}
		}
	}
}

func TestRowsByHand(t *testing.T) {
	for _, c := range []struct {
		text string
		want []string
	}{
		// One write: there is one rows, at each place and of each kind of Deed.
		{"write x 1", []string{"0312"}}, {"write y 1", []string{"0132"}}, {"write z 1", []string{"0123"}}, {"- | wait; write y 9", []string{"0132"}},
		{"swap x 1", []string{"0412"}}, {"swap y 1", []string{"0142"}}, {"swap z 1", []string{"0124"}}, {"read x | read x; write z 1", []string{"0125"}}, {"write y 3 in 1; read x in 1", []string{"0132"}},
		// One write at each of two and three places.
		{"write x 1; write y 2", []string{"03142"}}, {"write y 2; write x 1", []string{"04132"}}, {"write z 1 | write x 1", []string{"04123"}}, {"write x 1; write y 2; write z 3", []string{"031425"}}, {"write z 1 | write y 1 | write x 1", []string{"051423"}},
		// Two and three at one place, of one clerk and of several, of one Value and of two.
		{"write x 1; write x 2", []string{"03412", "04312"}}, {"write x 1 | write x 1", []string{"03412", "04312"}}, {"- | write y 1; read y; write y 2", []string{"01352", "01532"}}, {"write z 1; write z 2", []string{"01234", "01243"}},
		{"swap x 1 | swap x 2", []string{"04612", "06412"}}, {"write x 1 in 1; write x 2 in 1", []string{"03412", "04312"}}, {"swap z 1; read z; write z 2", []string{"01246", "01264"}},
		{"write x 1; write x 2 | write x 3", []string{"034512", "035412", "043512", "045312", "053412", "054312"}},
		{"write z 1 | write z 2 | write z 3", []string{"012345", "012354", "012435", "012453", "012534", "012543"}},
		// Two at each of two places: those of the later place change first.
		{"write x 1; write y 2 | write x 3; write y 4", []string{"0351462", "0351642", "0531462", "0531642"}},
		{"write y 1; write x 2 | write y 3; write x 4", []string{"0461352", "0461532", "0641352", "0641532"}},
		{"write x 1; write z 2 | write x 3; write z 4", []string{"0351246", "0351264", "0531246", "0531264"}},
		{"write y 1; write y 2; write z 3; write z 4", []string{"0134256", "0134265", "0143256", "0143265"}},
		{"write z 1; write y 2 | write y 3 | write z 4; write x 5", []string{"07145236", "07145263", "07154236", "07154263"}},
		// Two at all three places.
		{"write x 1; write y 2; write z 3 | write x 4; write y 5; write z 6", []string{"036147258", "036147285", "036174258", "036174285", "063147258", "063147285", "063174258", "063174285"}},
		{"write z 1; write z 2 | write y 3; write y 4 | write x 5; write x 6", []string{"078156234", "078156243", "078165234", "078165243", "087156234", "087156243", "087165234", "087165243"}},
	} {
		w := clerksNamed(c.text)
		if got := impl.RowsCount(w); got != int64(len(c.want)) {
			t.Errorf("%q has %d rows, want %d", c.text, got, len(c.want))
		}
		for n, want := range c.want {
			if got := impl.RowsAt(w, int64(n)); !sameList(got, numbersNamed(want)) {
				t.Errorf("RowsAt(%q, %d) = %v, want %s", c.text, n, got, want)
			}
			if !impl.RowsOk(w, numbersNamed(want)) {
				t.Errorf("%s is no rows of %q", want, c.text)
			}
		}
		mustHaveRows(t, w)
		mustRefuseRowsOff(t, w)
	}
}

func TestRowsAtItsEnds(t *testing.T) {
	for text, ends := range map[string][2]string{
		"-":                                {"012", "012"},
		"write y 1":                        {"0132", "0132"},
		"write x 1; write x 2 | write x 3": {"034512", "054312"},
		"swap x 1 | swap x 2; write z 3":   {"046127", "064127"},
		"write z 1; write z 2 | swap z 3":  {"012346", "012643"},
		"write y 1; write y 2; write x 3":  {"051342", "051432"},
		"write x 1; write z 2; write x 3 | write z 4; write z 5":            {"03512467", "05312764"},
		"write x 1; write x 2; write x 3 | write x 4; write x 5; write x 6": {"034567812", "087654312"},
		"write z 1; write z 2; write z 3 | write z 4; write z 5; write z 6": {"012345678", "012876543"},
	} {
		w := clerksNamed(text)
		last := impl.RowsCount(w) - 1
		if first, got := impl.RowsAt(w, 0), impl.RowsAt(w, last); !sameList(first, numbersNamed(ends[0])) || !sameList(got, numbersNamed(ends[1])) {
			t.Errorf("of %q the first is %v, the last %v", text, first, got)
		}
		for _, n := range append([]int64{-1, -last - 1, last + 1, last + 2}, far...) {
			if got := impl.RowsAt(w, n); len(got) != 0 {
				t.Errorf("RowsAt(%q, %d) = %v", text, n, got)
			}
		}
	}
}

func TestRowsBetweenTheEnds(t *testing.T) {
	w := clerksNamed("write y 1; write y 2; write y 3 | write y 4; write y 5; write y 6")
	for n, want := range map[int64]string{1: "013456872", 2: "013457682", 5: "013458762", 6: "013465782", 119: "013876542", 120: "014356782", 360: "016345782", 718: "018765342"} {
		if got := impl.RowsAt(w, n); !sameList(got, numbersNamed(want)) {
			t.Errorf("the rows at %d is %v, want %s", n, got, want)
		}
	}
}

func TestRowsOkByHand(t *testing.T) {
	// Writes to x are 0, 3 and 6 (of the swap), to y 1, 4 and 7, to z 2; reads are 5 (x) and 8 (z).
	w := clerksNamed("write x 1; write y 2; swap x 3 | write y 4; read z")
	for _, right := range []string{"0361472", "0361742", "0631472", "0631742"} {
		if !impl.RowsOk(w, numbersNamed(right)) {
			t.Errorf("%s should be a rows", right)
		}
	}
	for _, wrong := range []string{
		// Too short, too long.
		"", "0", "012", "036", "03614", "036147", "361472", "03614722", "03614720", "03614725", "036147203", "03614720361472", "00361472",
		// One of the first three is not foremost at its place.
		"3061472", "3601472", "0364172", "0364712", "6031742", "0634712",
		// Two of the first three are changed for each other, or all of them.
		"1360472", "2361470", "0362471", "1362470", "2360471",
		// A write twice, and so another one left out.
		"0331472", "0661472", "0361442", "0361772", "0061472", "0361172", "0361471",
		// A write left out: nothing in its seat, and the others closed up.
		"031472", "061742", "036142", "036172", "036147",
		// A write in another place's part; the parts in another order.
		"0341672", "0461372", "0371462", "0761432", "0341762", "0361427", "0361274", "0321476", "1470362", "2036147", "0362147", "1472036", "2147036",
		// A read: of the place, of another one, of the swap in its write's stead.
		"0351472", "0531472", "5361472", "0361478", "0381472", "0361582", "0361482", "0365472",
		// All events, and all in the order of their numbers.
		"012345678", "0123467", "0134672", "0346712",
		// Past the last event.
		"0391472", "0361492", "0361479", "9361472", "9999999",
	} {
		if rows := numbersNamed(wrong); impl.RowsOk(w, rows) || len(impl.RowWeb(w, rows)) != 0 {
			t.Errorf("%s should be no rows: %v", wrong, impl.RowWeb(w, rows))
		}
	}
	for _, n := range append([]int64{-1, -2, -3, -9, 9, 10, 11, 12, 13, 63, 64, 65, 67, 128, 1 << 32, 1<<32 + 3, 1 << 62}, far...) {
		for i := range 7 {
			rows := numbersNamed("0361472")
			rows[i] = n
			if impl.RowsOk(w, rows) || len(impl.RowWeb(w, rows)) != 0 {
				t.Errorf("%v should be no rows", rows)
			}
		}
	}
}

func TestRowWebByHand(t *testing.T) {
	for _, c := range []struct {
		text, rows string
		events     int
		want       string
	}{
		// Places with the first write alone, and with one more.
		{"-", "012", 3, ""}, {"wait | - | wait", "012", 3, ""}, {"read x; read y | read z", "012", 6, ""},
		{"write x 1", "0312", 4, "03"}, {"write y 1", "0132", 4, "13"}, {"write z 1", "0123", 4, "23"}, {"write x 1; write y 2 | write z 3", "031425", 6, "03 14 25"},
		{"write z 1; read x | write x 2", "05123", 6, "23 05"},
		// Two and more at one place, in their order and in others.
		{"write x 1; write x 2", "03412", 5, "03 04 34"}, {"write x 1; write x 2", "04312", 5, "03 04 43"}, {"write z 1 | write z 2", "01243", 5, "23 24 43"}, {"write y 1 | - | write y 1", "01342", 5, "13 14 34"},
		{"write x 1; write x 2 | write x 3", "034512", 6, "03 04 05 34 35 45"}, {"write x 1; write x 2 | write x 3", "045312", 6, "03 04 05 45 43 53"}, {"write x 1; write x 2 | write x 3", "054312", 6, "03 04 05 54 53 43"},
		// No line from one place to another, nor from the last write of a place to the next place's first.
		{"write x 1; write y 2 | write x 3; write y 4", "0351462", 7, "03 05 35 14 16 46"}, {"write x 1; write y 2 | write x 3; write y 4", "0531462", 7, "03 05 53 14 16 46"}, {"write x 1; write y 2 | write x 3; write y 4", "0531642", 7, "03 05 53 14 16 64"},
		{"write y 1; write z 2; write y 3; write z 4", "0135264", 7, "13 15 35 24 26 64"},
		// The writes of swaps; their reads have no line.
		{"swap x 1", "0412", 5, "04"}, {"swap z 1", "0124", 5, "24"}, {"swap y 1 | swap y 2", "01462", 7, "14 16 46"}, {"swap y 1 | swap y 2", "01642", 7, "14 16 64"}, {"swap x 1; swap y 2; swap x 3", "084162", 9, "08 04 84 16"},
		{"swap x 1; write x 2 | read x; swap x 3", "058412", 9, "05 08 04 58 54 84"},
		// Groups.
		{"write x 1 in 1; write x 2 in 1; read x in 1", "04312", 6, "03 04 43"},
		// Six writes.
		{"write x 1; write y 2; write z 3 | write x 4; write y 5; write z 6", "063147285", 9, "03 06 63 14 17 47 25 28 85"},
		{"write z 1; write z 2; write z 3 | write z 4; write z 5; write z 6", "012876543", 9, "28 27 26 25 24 23 87 86 85 84 83 76 75 74 73 65 64 63 54 53 43"},
	} {
		w := clerksNamed(c.text)
		if got, want := impl.RowWeb(w, numbersNamed(c.rows)), linesNamed(c.events, c.want); !sameList(got, want) {
			t.Errorf("RowWeb(%q, %s) = %v, want %v", c.text, c.rows, got, want)
		}
		mustHaveRows(t, w)
	}
}

func TestRowsOfWhatIsNoWork(t *testing.T) {
	for _, w := range wrongWorks() {
		if n := impl.RowsCount(w); n != -1 {
			t.Errorf("RowsCount(%v) = %d", w, n)
		}
		for _, rows := range [][]int64{nil, {}, {0}, {1}, {3}, {-1}, {0, 1}, {0, 1, 2}, {0, 1, 2, 3}, {0, 3, 1, 2}, {0, 1, 3, 2}, {0, 3, 4, 1, 2}, {0, 4, 6, 8, 1, 2}, {0, 1, 2, 3, 4, 5, 6, 7, 8}, {0, 3, 4, 5, 6, 7, 8, 9, 1, 2}} {
			if impl.RowsOk(w, rows) || len(impl.RowWeb(w, rows)) != 0 {
				t.Errorf("of %v: %v is a rows, with %v", w, rows, impl.RowWeb(w, rows))
			}
		}
		for _, n := range append([]int64{-1, 0, 1, 2}, far...) {
			if got := impl.RowsAt(w, n); len(got) != 0 {
				t.Errorf("RowsAt(%v, %d) = %v", w, n, got)
			}
		}
		mustHaveRows(t, w)
	}
}

func TestRowsOfVeryLongLists(t *testing.T) {
	const long = 1 << 20
	clerks, zeros := make([][]impl.Deed, long), make([]int64, long)
	mustHaveRows(t, clerks)
	mustHaveRows(t, clerks[:4])
	mustHaveRows(t, clerks[:3])
	for _, d := range []impl.Deed{{}, {Kind: 1}, {Kind: 2, Value: 1}, {Kind: 4}, {Kind: 2, Value: 1, Group: 1}, {Kind: 3, Value: 1}} {
		list := make([]impl.Deed, long)
		for i := range list {
			list[i] = d
		}
		for _, w := range [][][]impl.Deed{workOf(list), workOf(nil, list, nil), workOf(list, list, list)} {
			mustHaveRows(t, w)
			mustJudgeRows(t, w, nil, zeros)
		}
	}
	for _, text := range []string{"-", "write x 1", "write x 1; read x | swap x 2", "write y 1; write y 2; write y 3; write y 4; write y 5 | write y 6"} {
		w := clerksNamed(text)
		first := impl.RowsAt(w, 0)
		for _, n := range []int{7, 9, 10, 12, 13, 64, 256, 257, long} {
			mustJudgeRows(t, w, eventsTold(w), zeros[:n])
			// A right rows, and so many more behind it.
			mustJudgeRows(t, w, eventsTold(w), append(copied(first), zeros[:n]...))
		}
	}
}

// rowWorks are those of lineWorks, and some with many writes at one place.
func rowWorks() [][][]impl.Deed {
	works := lineWorks()
	for _, text := range []string{"write x 1; write x 2 | write x 3", "write y 1; write z 2 | swap z 3 | write y 4", "write z 1; write z 2 | write z 3; write z 4 | write z 5"} {
		works = append(works, clerksNamed(text))
	}
	return works
}

// handedRows are lists of every kind: right for some work, wrong for each, empty and long.
func handedRows() [][]int64 {
	return [][]int64{nil, {0}, {-1}, {0, 1, 2}, {2, 1, 0}, {0, 3, 1, 2}, {0, 1, 3, 2}, {0, 1, 2, 3}, {0, 3, 4, 1, 2}, {0, 3, 3, 1, 2}, {0, 5, 4, 3, 1, 2}, {0, 4, 6, 8, 1, 2}, {0, 1, 2, 3, 4, 5, 6, 7, 8}, make([]int64, 13), far}
}

func TestRowsLeaveTheirArgumentsAlone(t *testing.T) {
	for _, w := range rowWorks() {
		l, list := laid(w), eventsTold(w)
		before := l.copied()
		mustHaveRows(t, l.given)
		for _, rows := range append(handedRows(), impl.RowsAt(w, 0), impl.RowsAt(w, impl.RowsCount(w)-1)) {
			given, room := roomy(rows)
			roomBefore := copied(room)
			mustJudgeRows(t, l.given, list, given)
			spoil(impl.RowWeb(l.given, given))
			if !sameList(room, roomBefore) {
				t.Errorf("of %v is left %v", roomBefore, room)
			}
		}
		if !l.isAs(before) {
			t.Errorf("of %v is left %v on %v", w, l.clerks, l.floor)
		}
	}
}

func TestRowsAreNewMemory(t *testing.T) {
	for _, w := range rowWorks() {
		l, list := laid(w), eventsTold(w)
		before := l.copied()
		count := max(impl.RowsCount(w), 0)
		// All are asked for ahead of the first one that is spoilt, so that two that lie in one memory are found.
		all, again, webs := [][]int64{}, [][]int64{}, [][]int64{}
		for n := range count {
			all = append(all, impl.RowsAt(l.given, n))
			again = append(again, impl.RowsAt(l.given, n))
			webs = append(webs, impl.RowWeb(l.given, again[n]))
		}
		for n := range count {
			rows, want := all[n], rowsTold(list, n)
			if !sameList(rows, want) || !sameList(again[n], want) || !sameList(webs[n], rowWebTold(list, want)) {
				t.Fatalf("of %v two answers share memory: %v, %v, %v, want %v", w, rows, again[n], webs[n], want)
			}
			web := impl.RowWeb(l.given, rows)
			spoil(webs[n])
			spoil(again[n])
			spoil(impl.RowsAt(l.given, n))
			if !sameList(rows, want) || !sameList(web, rowWebTold(list, want)) {
				t.Fatalf("of %v two answers share memory: %v and %v, want %v", w, rows, web, want)
			}
			spoil(rows)
		}
		spoil(impl.RowsAt(l.given, count))
		spoil(impl.RowsAt(l.given, -1))
		spoil(impl.RowWeb(l.given, nil))
		mustHaveRows(t, w)
		if !l.isAs(before) {
			t.Errorf("an answer of %v shares memory with it", w)
		}
	}
}

// One list may be several clerks': each of them has writes of its own.
func TestRowsOfOneListForAllClerks(t *testing.T) {
	for _, list := range [][]impl.Deed{{}, clerkOf("write x 1"), clerkOf("write x 1", "write x 2"), clerkOf("write x 1", "wait", "write y 2"), clerkOf("swap x 1"), clerkOf("write x 1 in 1")} {
		mustHaveRows(t, workOf(list, list))
		mustHaveRows(t, workOf(list, list, list))
		mustRefuseRowsOff(t, workOf(list, list, list))
	}
}
