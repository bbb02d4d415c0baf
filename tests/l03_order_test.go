package tests

import (
	"math"
	"testing"

	"loop.example/g00411/impl"
)

// runsBack walks line by line from one and tells whether the walk meets it again.
func runsBack(r []int64) bool {
	for i, met := range gridOf(reached(r)) {
		if met[i] {
			return true
		}
	}
	return false
}

// leastFirst asks for each place anew who may stand there, from the least on; nobody is left where it does not go round.
func leastFirst(r []int64) ([]int64, bool) {
	g := gridOf(r)
	list := []int64{}
	stands := make([]bool, len(g))
	mayStand := func(j int) bool {
		for i := range g {
			if g[i][j] && !stands[i] {
				return false
			}
		}
		return !stands[j]
	}
	for range g {
		for j := range g {
			if mayStand(j) {
				stands[j] = true
				list = append(list, int64(j))
				break
			}
		}
	}
	if len(list) < len(g) {
		return nil, false
	}
	return list, true
}

// placesOf tells where each number stands, of all places.
func placesOf(list []int64) map[int64][]int {
	places := map[int64][]int{}
	for at, one := range list {
		places[one] = append(places[one], at)
	}
	return places
}

// isInOrder holds each line by itself against the places at which its two ends stand.
func isInOrder(r []int64, list []int64) bool {
	g, places := gridOf(r), placesOf(list)
	for i := range g {
		if len(places[int64(i)]) != 1 {
			return false
		}
	}
	for i := range g {
		for j := range g {
			if g[i][j] && places[int64(i)][0] >= places[int64(j)][0] {
				return false
			}
		}
	}
	return len(list) == len(g)
}

// liftedBySearch looks for each two through all lines.
func liftedBySearch(r []int64, class []int64) []int64 {
	g := gridOf(r)
	return drawn(len(g), func(i, j int) bool {
		for a := range g {
			for b := range g {
				if g[a][b] && class[a] == class[i] && class[b] == class[j] {
					return class[i] != class[j]
				}
			}
		}
		return false
	})
}

// orders are all of 0 to n less 1, the lesser list first.
func orders(n int) [][]int64 {
	lists := [][]int64{}
	for _, list := range listsOf(n, 0, int64(n)) {
		if isInOrder(emptyWeb(n), list) {
			lists = append(lists, list)
		}
	}
	return lists
}

// listsOf are all lists of that length with numbers from least on, below past; the lesser list first.
func listsOf(length int, least int64, past int64) [][]int64 {
	lists := [][]int64{{}}
	for range length {
		longer := [][]int64{}
		for _, list := range lists {
			for one := least; one < past; one++ {
				longer = append(longer, append(copied(list), one))
			}
		}
		lists = longer
	}
	return lists
}

// turned goes through all of n in steps that have nothing in common with it, so that each comes once.
func turned(n int) []int64 {
	steps := 5
	if n%steps == 0 {
		steps = 3
	}
	list := []int64{}
	for i := range n {
		list = append(list, int64((i*steps+n/2)%n))
	}
	return list
}

func backwards(n int) []int64 {
	list := []int64{}
	for i := n - 1; i >= 0; i-- {
		list = append(list, int64(i))
	}
	return list
}

// unround leaves of each web the lines that go on in some order: with that order, none goes round.
func unround() [][]int64 {
	webs := [][]int64{}
	for _, r := range append(stirred(), fullWeb(impl.MaxSize), fullWeb(1)) {
		for _, order := range [][]int64{turned(len(r)), backwards(len(r))} {
			g, places := gridOf(r), placesOf(order)
			webs = append(webs, drawn(len(r), func(i, j int) bool {
				return g[i][j] && places[int64(i)][0] < places[int64(j)][0]
			}))
		}
	}
	return webs
}

func orderWebs() [][]int64 {
	return append(append(manyWebs(), allWebs(4)...), unround()...)
}

// classLists are for webs of n: all alike, all different, some alike, and numbers far out.
func classLists(n int) [][]int64 {
	farOut, halves, rest, ends, whole := emptyWeb(n), emptyWeb(n), emptyWeb(n), emptyWeb(n), emptyWeb(n)
	for i := range n {
		farOut[i] = far[i%len(far)]
		halves[i] = int64(i / 2)
		rest[i] = int64(i%3) - 1
		ends[i] = math.MaxInt64
		if i < n/2 {
			ends[i] = math.MinInt64
		}
		// Only the highest bits, or only the lowest, tell some of these apart.
		whole[i] = int64(i%2) + int64(i/4)<<32
	}
	return [][]int64{emptyWeb(n), farOut, halves, rest, ends, whole, backwards(n), turned(n)}
}

func checkSorted(t *testing.T, r []int64) {
	t.Helper()
	list, is := impl.Sorted(r)
	want, wantIs := leastFirst(r)
	if is != wantIs || !sameList(list, want) {
		t.Fatalf("Sorted(%v) = %v, %v, want %v, %v", r, list, is, want, wantIs)
	}
}

// Promise 3.
func TestSortedFollowsJustWhereItDoesNotGoRound(t *testing.T) {
	for _, r := range orderWebs() {
		list, is := impl.Sorted(r)
		if is == impl.Round(r) {
			t.Fatalf("Sorted(%v) is %v, so is Round", r, is)
		}
		if is != impl.Follows(r, list) {
			t.Fatalf("Sorted(%v) = %v, %v, but Follows is %v", r, list, is, !is)
		}
		if is && !isInOrder(r, list) || !is && len(list) != 0 {
			t.Fatalf("Sorted(%v) = %v, %v", r, list, is)
		}
	}
}

// Promise 3, from the other side: where it goes Round no order at all Follows; else the least of those that do is Sorted.
func TestSortedIsTheLeastThatFollows(t *testing.T) {
	for n := 0; n <= 4; n++ {
		all := orders(n)
		for _, r := range allWebs(n) {
			var least []int64
			some := false
			for _, list := range all {
				if impl.Follows(r, list) {
					least, some = list, true
					break
				}
			}
			list, is := impl.Sorted(r)
			if is != some || impl.Round(r) == some || !sameList(list, least) {
				t.Fatalf("Sorted(%v) = %v, %v, but %v Follows", r, list, is, least)
			}
		}
	}
}

func TestRoundIsComingBack(t *testing.T) {
	for _, r := range orderWebs() {
		if got := impl.Round(r); got != runsBack(r) {
			t.Fatalf("Round(%v) = %v", r, got)
		}
	}
	for _, r := range unround() {
		if impl.Round(r) {
			t.Fatalf("Round(%v)", r)
		}
	}
}

// A ring of any length among others, at any place, is found; without one of its lines it is none.
func TestRoundOfOneRing(t *testing.T) {
	for n := 1; n <= impl.MaxSize; n++ {
		for _, order := range [][]int64{turned(n), backwards(n)} {
			for long := 1; long <= n; long++ {
				r := emptyWeb(n)
				for k := range long - 1 {
					r[order[k]] += power(order[k+1])
				}
				if list, is := impl.Sorted(r); impl.Round(r) || !is || !isInOrder(r, list) {
					t.Errorf("Round(%v), or Sorted %v, %v", r, list, is)
				}
				r[order[long-1]] += power(order[0])
				if list, is := impl.Sorted(r); !impl.Round(r) || is || len(list) != 0 {
					t.Errorf("no Round(%v), or Sorted %v, %v", r, list, is)
				}
			}
		}
	}
}

func TestSortedTakesTheLeastAtEachPlace(t *testing.T) {
	for _, r := range orderWebs() {
		checkSorted(t, r)
	}
}

func TestSortedByHand(t *testing.T) {
	for _, c := range []struct {
		r, want []int64
		is      bool
	}{
		{nil, nil, true},
		{[]int64{}, nil, true},
		{[]int64{0}, []int64{0}, true},
		{[]int64{1}, nil, false},
		{[]int64{0, 0}, []int64{0, 1}, true},
		{[]int64{2, 0}, []int64{0, 1}, true},
		{[]int64{0, 1}, []int64{1, 0}, true},
		{[]int64{2, 1}, nil, false},
		{[]int64{0, 2}, nil, false},
		{[]int64{0, 0, 1, 2}, []int64{2, 0, 3, 1}, true},
		// 0 is let in last of all, and stands ahead of those that waited longer.
		{[]int64{0, 0, 0, 1, 0}, []int64{1, 2, 3, 0, 4}, true},
		{[]int64{0, 0, 0, 0, 1}, []int64{1, 2, 3, 4, 0}, true},
		{[]int64{0, 1, 0, 0, 0}, []int64{1, 0, 2, 3, 4}, true},
		{[]int64{0, 9, 0, 4}, []int64{1, 0, 3, 2}, true},
		// Two lines lead to 0: it waits for both, and stands there once.
		{[]int64{0, 1, 1, 0}, []int64{1, 2, 0, 3}, true},
		{[]int64{0, 4, 0, 2, 8, 16}, []int64{0, 5, 4, 3, 1, 2}, true},
		// It goes round behind some that do not.
		{[]int64{2, 4, 2, 0}, nil, false},
		{[]int64{0, 1, 2, 4, 8, 16, 32, 64, 128, 256, 512, 1024}, []int64{11, 10, 9, 8, 7, 6, 5, 4, 3, 2, 1, 0}, true},
		{[]int64{2048, 0, 0, 0, 0, 0, 0, 0, 0, 0, 0, 1}, nil, false},
		{[]int64{0, 0, 0, 0, 0, 0, 0, 0, 0, 0, 0, 2048}, nil, false},
	} {
		list, is := impl.Sorted(c.r)
		if is != c.is || !sameList(list, c.want) {
			t.Errorf("Sorted(%v) = %v, %v, want %v, %v", c.r, list, is, c.want, c.is)
		}
		if impl.Round(c.r) == c.is {
			t.Errorf("Round(%v) = %v", c.r, c.is)
		}
	}
}

// Where no line says otherwise, they stand as they are numbered; where each has one to the next, no other order is left.
func TestSortedOfNoLineAndOfAChain(t *testing.T) {
	for n := 0; n <= impl.MaxSize; n++ {
		rising := []int64{}
		for i := range n {
			rising = append(rising, int64(i))
		}
		if list, is := impl.Sorted(emptyWeb(n)); !is || !sameList(list, rising) {
			t.Errorf("Sorted(%v) = %v, %v", emptyWeb(n), list, is)
		}
		for _, order := range [][]int64{rising, turned(n), backwards(n)} {
			chain := emptyWeb(n)
			for k := 0; k+1 < n; k++ {
				chain[order[k]] += power(order[k+1])
			}
			if list, is := impl.Sorted(chain); !is || !sameList(list, order) {
				t.Errorf("Sorted(%v) = %v, %v, want %v", chain, list, is, order)
			}
		}
	}
}

// One line from one to itself spoils the whole order, whatever else there is.
func TestALineToItselfGoesRound(t *testing.T) {
	for n := 1; n <= impl.MaxSize; n++ {
		for at := range n {
			for _, lines := range []func(i, j int) bool{
				func(i, j int) bool { return false },
				func(i, j int) bool { return i < j },
			} {
				r := drawn(n, func(i, j int) bool { return lines(i, j) || i == at && j == at })
				list, is := impl.Sorted(r)
				if !impl.Round(r) || is || len(list) != 0 {
					t.Errorf("Round(%v) is false, or Sorted %v, %v", r, list, is)
				}
				order, _ := leastFirst(emptyWeb(n))
				if impl.Follows(r, order) {
					t.Errorf("Follows(%v, %v)", r, order)
				}
			}
		}
	}
}

func TestFollowsOfEveryShortList(t *testing.T) {
	for n := 0; n <= 3; n++ {
		lists := [][]int64{}
		for length := 0; length <= n+1; length++ {
			lists = append(lists, listsOf(length, -1, int64(n)+1)...)
		}
		for _, r := range allWebs(n) {
			for _, list := range lists {
				if got := impl.Follows(r, list); got != isInOrder(r, list) {
					t.Fatalf("Follows(%v, %v) = %v", r, list, got)
				}
			}
		}
	}
}

func TestFollowsOfEveryOrder(t *testing.T) {
	all := orders(4)
	for _, r := range allWebs(4) {
		for _, list := range all {
			if got := impl.Follows(r, list); got != isInOrder(r, list) {
				t.Fatalf("Follows(%v, %v) = %v", r, list, got)
			}
		}
	}
	for _, r := range append(manyWebs(), unround()...) {
		for _, list := range [][]int64{turned(len(r)), backwards(len(r))} {
			if got := impl.Follows(r, list); got != isInOrder(r, list) {
				t.Fatalf("Follows(%v, %v) = %v", r, list, got)
			}
		}
	}
}

func TestFollowsByHand(t *testing.T) {
	for _, c := range []struct {
		r, list []int64
		want    bool
	}{
		{nil, nil, true},
		{[]int64{}, []int64{}, true},
		{nil, []int64{0}, false},
		{[]int64{0}, nil, false},
		{[]int64{0}, []int64{0}, true},
		{[]int64{1}, []int64{0}, false},
		{[]int64{0}, []int64{1}, false},
		{[]int64{0}, []int64{0, 0}, false},
		{[]int64{0}, []int64{0, 1}, false},
		{[]int64{2, 0}, []int64{0, 1}, true},
		{[]int64{2, 0}, []int64{1, 0}, false},
		{[]int64{0, 0}, []int64{0, 0}, false},
		{[]int64{0, 0}, []int64{1, 0}, true},
		{[]int64{0, 0}, []int64{0, 2}, false},
		{[]int64{0, 0}, []int64{0, -1}, false},
		{[]int64{2, 4, 0}, []int64{0, 1, 2}, true},
		{[]int64{2, 4, 0}, []int64{0, 2, 1}, false},
		{[]int64{4, 0, 0}, []int64{1, 0, 2}, true},
		{[]int64{4, 0, 0}, []int64{0, 1, 2}, true},
		{[]int64{4, 0, 0}, []int64{2, 1, 0}, false},
	} {
		if got := impl.Follows(c.r, c.list); got != c.want {
			t.Errorf("Follows(%v, %v) = %v", c.r, c.list, got)
		}
	}
}

// A right order in which one number is another one, or which is longer or shorter by some, is none.
func TestFollowsOfSpoiltOrders(t *testing.T) {
	for n := 1; n <= impl.MaxSize; n++ {
		for _, r := range [][]int64{emptyWeb(n), drawn(n, func(i, j int) bool { return i > j })} {
			order := backwards(n)
			if !impl.Follows(r, order) {
				t.Fatalf("Follows(%v, %v) = false", r, order)
			}
			wrong := append([]int64{-64, -2, -1, int64(n), int64(n) + 1, 12, 13, 63, 64, 1 << 32, 1<<32 + 1}, far...)
			for at := range n {
				for _, other := range append(copied(wrong), order...) {
					if other == order[at] {
						continue
					}
					list := copied(order)
					list[at] = other
					if impl.Follows(r, list) {
						t.Errorf("Follows(%v, %v)", r, list)
					}
				}
				short := append(copied(order[:at]), order[at+1:]...)
				if impl.Follows(r, short) || impl.Follows(r, order[:at]) {
					t.Errorf("Follows(%v, %v), or of less", r, short)
				}
			}
			for _, one := range append(wrong, order...) {
				behind, ahead := append(copied(order), one), append([]int64{one}, order...)
				if impl.Follows(r, behind) || impl.Follows(r, ahead) {
					t.Errorf("Follows(%v, %v), or with it ahead", r, behind)
				}
			}
			if twice := append(copied(order), order...); impl.Follows(r, twice) {
				t.Errorf("Follows(%v, %v)", r, twice)
			}
		}
	}
}

func TestLiftedOfEverySmallWeb(t *testing.T) {
	for n := 0; n <= 3; n++ {
		for _, class := range listsOf(n, -1, 2) {
			for _, r := range allWebs(n) {
				if got, want := impl.Lifted(r, class), liftedBySearch(r, class); !sameList(got, want) {
					t.Fatalf("Lifted(%v, %v) = %v, want %v", r, class, got, want)
				}
			}
		}
	}
}

func TestLiftedOfManyWebs(t *testing.T) {
	for _, r := range append(manyWebs(), unround()...) {
		for _, class := range classLists(len(r)) {
			got, want := impl.Lifted(r, class), liftedBySearch(r, class)
			if !sameList(got, want) || !impl.WebOk(got) {
				t.Fatalf("Lifted(%v, %v) = %v, want %v", r, class, got, want)
			}
		}
	}
}

func TestLiftedByHand(t *testing.T) {
	for _, c := range []struct{ r, class, want []int64 }{
		{nil, nil, nil},
		{[]int64{0}, []int64{5}, []int64{0}},
		{[]int64{1}, []int64{5}, []int64{0}},
		{[]int64{2, 0}, []int64{7, 7}, []int64{0, 0}},
		{[]int64{2, 0}, []int64{7, 8}, []int64{2, 0}},
		{[]int64{3, 3}, []int64{7, 8}, []int64{2, 1}},
		{[]int64{2, 4, 0}, []int64{0, 0, 2}, []int64{4, 4, 0}},
		{[]int64{2, 4, 0}, []int64{0, 1, 1}, []int64{6, 0, 0}},
		// From 0 to 1 and from 2 to 3, where 1 and 2 are one: no line from 0 to 3 comes of that.
		{[]int64{2, 0, 8, 0}, []int64{0, 1, 1, 3}, []int64{6, 8, 8, 0}},
		// Two lines that cross make two classes go round.
		{[]int64{4, 0, 0, 2}, []int64{0, 0, 2, 2}, []int64{12, 12, 3, 3}},
		{[]int64{2, 0, 0}, []int64{math.MinInt64, math.MaxInt64, math.MinInt64}, []int64{2, 0, 2}},
		{[]int64{2, 0}, []int64{0, 1 << 32}, []int64{2, 0}},
	} {
		if got := impl.Lifted(c.r, c.class); !sameList(got, c.want) {
			t.Errorf("Lifted(%v, %v) = %v, want %v", c.r, c.class, got, c.want)
		}
	}
}

// Of classes that are all alike nothing is left; of all different ones all but the lines from one to itself.
func TestLiftedOfOneClassAndOfMany(t *testing.T) {
	for _, r := range manyWebs() {
		n := len(r)
		g := gridOf(r)
		apart := drawn(n, func(i, j int) bool { return g[i][j] && i != j })
		for _, class := range []int64{0, -1, 4096, math.MinInt64, math.MaxInt64} {
			alike := emptyWeb(n)
			for i := range alike {
				alike[i] = class
			}
			if got := impl.Lifted(r, alike); !sameList(got, emptyWeb(n)) {
				t.Fatalf("Lifted(%v, %v) = %v", r, alike, got)
			}
		}
		for _, class := range [][]int64{backwards(n), turned(n)} {
			if got := impl.Lifted(r, class); !sameList(got, apart) {
				t.Fatalf("Lifted(%v, %v) = %v, want %v", r, class, got, apart)
			}
		}
	}
}

func TestOrderOfNoWeb(t *testing.T) {
	for _, wrong := range noWebs() {
		if impl.Round(wrong) {
			t.Errorf("Round(%v)", wrong)
		}
		if list, is := impl.Sorted(wrong); is || len(list) != 0 {
			t.Errorf("Sorted(%v) = %v, %v", wrong, list, is)
		}
		n := len(wrong)
		for _, other := range [][]int64{nil, {0}, wrong, emptyWeb(n), backwards(n), far} {
			if got := impl.Lifted(wrong, other); len(got) != 0 {
				t.Errorf("Lifted(%v, %v) = %v", wrong, other, got)
			}
			if impl.Follows(wrong, other) {
				t.Errorf("Follows(%v, %v)", wrong, other)
			}
		}
	}
}

func TestLiftedOfClassesNotAsMany(t *testing.T) {
	for n := 0; n <= impl.MaxSize; n++ {
		for _, r := range [][]int64{emptyWeb(n), fullWeb(n)} {
			for m := 0; m <= impl.MaxSize+2; m++ {
				for _, class := range [][]int64{emptyWeb(m), backwards(m)} {
					if got := impl.Lifted(r, class); n != m && len(got) != 0 {
						t.Errorf("Lifted(%v, %v) = %v", r, class, got)
					}
				}
			}
			if got := impl.Lifted(r, emptyWeb(1000)); len(got) != 0 {
				t.Errorf("Lifted(%v, 1000 classes) = %v", r, got)
			}
		}
	}
}

type ordered struct {
	name string
	do   func(a, b []int64) []int64
}

// ofOrder tells each answer as a list, flags as 0 and 1.
func ofOrder() []ordered {
	flag := func(is bool) int64 {
		if is {
			return 1
		}
		return 0
	}
	return []ordered{
		{"Round", func(a, b []int64) []int64 { return []int64{flag(impl.Round(a))} }},
		{"Sorted", func(a, b []int64) []int64 { list, _ := impl.Sorted(a); return list }},
		{"Lifted", impl.Lifted},
		{"Follows", func(a, b []int64) []int64 { return []int64{flag(impl.Follows(a, b))} }},
	}
}

// handedToOrder has beside the webs lists that are orders or classes of them.
func handedToOrder() [][]int64 {
	lists := append(handed(), []int64{0}, []int64{0, 1}, []int64{0, 0, 1, 2})
	for _, n := range []int{3, 5, impl.MaxSize} {
		lists = append(lists, backwards(n), turned(n), emptyWeb(n))
		lists = append(lists, classLists(n)...)
	}
	return lists
}

func TestOrderLeavesItsArgumentsAlone(t *testing.T) {
	for _, one := range handedToOrder() {
		a, roomA := roomy(one)
		beforeA := copied(roomA)
		for _, other := range handedToOrder() {
			b, roomB := roomy(other)
			beforeB := copied(roomB)
			for _, f := range ofOrder() {
				spoil(f.do(a, b))
				spoil(f.do(a, a))
				if !sameList(roomA, beforeA) || !sameList(roomB, beforeB) {
					t.Fatalf("%s(%v, %v) left %v and %v", f.name, one, other, roomA, roomB)
				}
			}
		}
	}
}

func TestAnswersOfOrderAreNewMemory(t *testing.T) {
	for _, a := range handedToOrder() {
		for _, b := range append(classLists(len(a)), a) {
			for _, f := range ofOrder() {
				first := f.do(a, b)
				kept := copied(first)
				second := f.do(a, b)
				spoil(second)
				if !sameList(first, kept) || !sameList(f.do(a, b), kept) {
					t.Fatalf("two answers of %s(%v, %v) share memory", f.name, a, b)
				}
			}
		}
	}
}

// One memory may hold the web and its classes or its order, one behind the other or one upon the other.
func TestOrderInOneMemory(t *testing.T) {
	memory := []int64{2, 4, 0, 1, 2, 0, 0, 1, 1}
	before := copied(memory)
	for from := 0; from+3 <= len(memory); from++ {
		for behind := 0; behind+3 <= len(memory); behind++ {
			a, b := memory[from:from+3], memory[behind:behind+3]
			if got := impl.Lifted(a, b); !sameList(got, liftedBySearch(a, b)) {
				t.Fatalf("Lifted(%v, %v) = %v", a, b, got)
			}
			if got := impl.Follows(a, b); got != isInOrder(a, b) {
				t.Fatalf("Follows(%v, %v) = %v", a, b, got)
			}
			checkSorted(t, a)
			if !sameList(memory, before) {
				t.Fatalf("%v is left", memory)
			}
		}
	}
}

// An answer does not hang on the room that an argument has.
func TestOrderAnswersWithRoomAsWithout(t *testing.T) {
	for _, one := range handedToOrder() {
		for _, other := range handedToOrder() {
			looseA, _ := roomy(one)
			looseB, _ := roomy(other)
			for _, f := range ofOrder() {
				if !sameList(f.do(copied(one), copied(other)), f.do(looseA, looseB)) {
					t.Errorf("%s(%v, %v) hangs on the room behind it", f.name, one, other)
				}
			}
		}
	}
}
