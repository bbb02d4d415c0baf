package tests

import (
	"math"
	"testing"

	"loop.example/g00411/impl"
)

// grid tells of each two by itself whether a line goes from one to the other: no bits, so that it shares nothing with the program.
type grid [][]bool

func gridOf(r []int64) grid {
	g := make(grid, len(r))
	for i, s := range r {
		g[i] = make([]bool, len(r))
		for _, j := range bitsOf(s) {
			g[i][j] = true
		}
	}
	return g
}

func (g grid) web() []int64 {
	r := make([]int64, len(g))
	for i := range g {
		for j, there := range g[i] {
			if there {
				r[i] += power(int64(j))
			}
		}
	}
	return r
}

// drawn asks of each two whether there is a line.
func drawn(n int, asked func(i, j int) bool) []int64 {
	g := gridOf(make([]int64, n))
	for i := range g {
		for j := range g {
			g[i][j] = asked(i, j)
		}
	}
	return g.web()
}

// within tells whether each line of a is one of b.
func within(a []int64, b []int64) bool {
	x, y := gridOf(a), gridOf(b)
	for i := range x {
		for j := range x {
			if x[i][j] && !y[i][j] {
				return false
			}
		}
	}
	return len(a) == len(b)
}

// goesOn tells whether, where two lines follow one another, one goes from the first's beginning to the second's end.
func goesOn(r []int64) bool {
	g := gridOf(r)
	for i := range g {
		for k := range g {
			for j := range g {
				if g[i][k] && g[k][j] && !g[i][j] {
					return false
				}
			}
		}
	}
	return true
}

// reached walks from each one line by line, till nobody new is met.
func reached(r []int64) []int64 {
	g := gridOf(r)
	met := gridOf(make([]int64, len(r)))
	for i := range g {
		open := []int{i}
		for len(open) > 0 {
			k := open[0]
			open = open[1:]
			for j := range g {
				if g[k][j] && !met[i][j] {
					met[i][j] = true
					open = append(open, j)
				}
			}
		}
	}
	return met.web()
}

func emptyWeb(n int) []int64 { return make([]int64, n) }

func fullWeb(n int) []int64 {
	return drawn(n, func(i, j int) bool { return true })
}

// allWebs are all of n, for n small enough.
func allWebs(n int) [][]int64 {
	webs := [][]int64{}
	sets := power(int64(n))
	count := int64(1)
	for range n {
		count *= sets
	}
	for c := range count {
		r := emptyWeb(n)
		for i, rest := 0, c; i < n; i++ {
			r[i] = rest % sets
			rest /= sets
		}
		webs = append(webs, r)
	}
	return webs
}

// stirred are webs of every size from 0 to MaxSize with few, some and many lines, the same at every run.
func stirred() [][]int64 {
	webs := [][]int64{}
	state := uint64(411)
	next := func() uint64 {
		state = state*6364136223846793005 + 1442695040888963407
		return state >> 33
	}
	for n := 0; n <= impl.MaxSize; n++ {
		for round := range 24 {
			webs = append(webs, drawn(n, func(i, j int) bool { return next()%24 < uint64(round+1) }))
		}
	}
	return webs
}

// shapes are webs of n whose ways are long, or whose ways come out only in one order of looking.
func shapes(n int) [][]int64 {
	return [][]int64{
		emptyWeb(n),
		fullWeb(n),
		drawn(n, func(i, j int) bool { return i == j }),
		drawn(n, func(i, j int) bool { return j == i+1 }),
		drawn(n, func(i, j int) bool { return i == j+1 }),
		drawn(n, func(i, j int) bool { return j == (i+1)%n }),
		drawn(n, func(i, j int) bool { return i == (j+1)%n }),
		drawn(n, func(i, j int) bool { return j == (i*5+1)%n }),
		drawn(n, func(i, j int) bool { return j == i/2 && i != j }),
		drawn(n, func(i, j int) bool { return i < j }),
		drawn(n, func(i, j int) bool { return i > j }),
		drawn(n, func(i, j int) bool { return i == 0 && j == n-1 }),
		drawn(n, func(i, j int) bool { return i == n-1 && j == 0 }),
	}
}

func manyWebs() [][]int64 {
	webs := stirred()
	for n := 0; n <= impl.MaxSize; n++ {
		webs = append(webs, shapes(n)...)
	}
	for n := 0; n <= 3; n++ {
		webs = append(webs, allWebs(n)...)
	}
	return webs
}

// noWebs are lists of 1 and more that are no webs.
func noWebs() [][]int64 {
	lists := [][]int64{emptyWeb(13), emptyWeb(14), emptyWeb(64), emptyWeb(1000)}
	for n := 1; n <= impl.MaxSize; n++ {
		past := power(int64(n))
		wrong := append([]int64{-past - 1, -past, 1 - past, -2, -1, past, past + 1, past + past, 8192, 1 << 32, 1<<32 + 1, 1 << 62}, far...)
		for _, s := range wrong {
			for _, at := range []int{0, n / 2, n - 1} {
				for _, r := range [][]int64{emptyWeb(n), fullWeb(n)} {
					r[at] = s
					lists = append(lists, r)
				}
			}
		}
	}
	long := emptyWeb(13)
	for i := range long {
		long[i] = fullSet
	}
	return append(lists, long, append(copied(long), far...))
}

type unary struct {
	name string
	do   func([]int64) []int64
	want func(grid) []int64
}

type binary struct {
	name string
	do   func([]int64, []int64) []int64
	want func(a, b grid) []int64
}

func ofOne() []unary {
	return []unary{
		{"Back", impl.Back, func(g grid) []int64 { return drawn(len(g), func(i, j int) bool { return g[j][i] }) }},
		{"Ways", impl.Ways, func(g grid) []int64 { return reached(g.web()) }},
	}
}

func ofTwo() []binary {
	return []binary{
		{"Joined", impl.Joined, func(a, b grid) []int64 {
			return drawn(len(a), func(i, j int) bool { return a[i][j] || b[i][j] })
		}},
		{"Common", impl.Common, func(a, b grid) []int64 {
			return drawn(len(a), func(i, j int) bool { return a[i][j] && b[i][j] })
		}},
		{"Less", impl.Less, func(a, b grid) []int64 {
			return drawn(len(a), func(i, j int) bool { return a[i][j] && !b[i][j] })
		}},
		{"Then", impl.Then, func(a, b grid) []int64 {
			return drawn(len(a), func(i, j int) bool {
				for k := range a {
					if a[i][k] && b[k][j] {
						return true
					}
				}
				return false
			})
		}},
	}
}

// Promise 2: Ways hold the lines, go on by themselves, and are within all others that do so.
func TestWaysAreTheLeastThatGoOn(t *testing.T) {
	for n := 0; n <= 3; n++ {
		webs := allWebs(n)
		for _, r := range webs {
			ways := impl.Ways(r)
			if !within(r, ways) || !goesOn(ways) {
				t.Fatalf("Ways(%v) = %v", r, ways)
			}
			for _, other := range webs {
				if within(r, other) && goesOn(other) && !within(ways, other) {
					t.Fatalf("Ways(%v) = %v, but %v is less", r, ways, other)
				}
			}
		}
	}
}

// Promise 2, at every size: what is reached line by line is the least that goes on.
func TestWaysAreWhatIsReached(t *testing.T) {
	for _, r := range append(manyWebs(), allWebs(4)...) {
		ways := impl.Ways(r)
		if !sameList(ways, reached(r)) || !within(r, ways) || !goesOn(ways) || !impl.WebOk(ways) {
			t.Fatalf("Ways(%v) = %v, want %v", r, ways, reached(r))
		}
		if again := impl.Ways(ways); !sameList(again, ways) {
			t.Fatalf("Ways of the Ways %v = %v", ways, again)
		}
	}
}

// Promise 2, asked of the program's own Then and Joined: Ways are the lines and the lines on from Ways.
func TestWaysGoOnByThen(t *testing.T) {
	for _, r := range manyWebs() {
		ways := impl.Ways(r)
		if on := impl.Joined(r, impl.Then(r, ways)); !sameList(on, ways) {
			t.Fatalf("of %v: %v, but Ways %v", r, on, ways)
		}
		if back := impl.Ways(impl.Back(r)); !sameList(back, impl.Back(ways)) {
			t.Fatalf("Ways of Back(%v) = %v", r, back)
		}
	}
}

func TestWaysByHand(t *testing.T) {
	for _, c := range []struct{ r, want []int64 }{
		{nil, nil},
		{[]int64{}, nil},
		{[]int64{0}, []int64{0}},
		{[]int64{1}, []int64{1}},
		{[]int64{2, 0}, []int64{2, 0}},
		{[]int64{2, 1}, []int64{3, 3}},
		{[]int64{2, 4, 0}, []int64{6, 4, 0}},
		{[]int64{0, 1, 2}, []int64{0, 1, 3}},
		{[]int64{4, 1, 0}, []int64{4, 5, 0}},
		{[]int64{2, 4, 1}, []int64{7, 7, 7}},
		{[]int64{2, 1, 4, 0}, []int64{3, 3, 4, 0}},
		{[]int64{8, 0, 2, 4}, []int64{14, 0, 2, 6}},
		{[]int64{2, 4, 8, 16, 32, 64, 128, 256, 512, 1024, 2048, 0}, []int64{4094, 4092, 4088, 4080, 4064, 4032, 3968, 3840, 3584, 3072, 2048, 0}},
		{[]int64{0, 1, 2, 4, 8, 16, 32, 64, 128, 256, 512, 1024}, []int64{0, 1, 3, 7, 15, 31, 63, 127, 255, 511, 1023, 2047}},
	} {
		if got := impl.Ways(c.r); !sameList(got, c.want) {
			t.Errorf("Ways(%v) = %v, want %v", c.r, got, c.want)
		}
	}
}

// One comes from itself to itself only where a line leads away and back.
func TestWaysTakeOneLineAtLeast(t *testing.T) {
	for n := 1; n <= impl.MaxSize; n++ {
		if ways := impl.Ways(emptyWeb(n)); !sameList(ways, emptyWeb(n)) {
			t.Errorf("Ways of no line = %v", ways)
		}
		ring := drawn(n, func(i, j int) bool { return j == (i+1)%n })
		if ways := impl.Ways(ring); !sameList(ways, fullWeb(n)) {
			t.Errorf("Ways(%v) = %v", ring, ways)
		}
	}
}

func TestWebOkAtEveryLimit(t *testing.T) {
	if !impl.WebOk(nil) || !impl.WebOk([]int64{}) {
		t.Error("a web of 0 sets is refused")
	}
	for n := 1; n <= impl.MaxSize; n++ {
		past := power(int64(n))
		for at := range n {
			for s := -past - 2; s <= past+past+2; s++ {
				for _, r := range [][]int64{emptyWeb(n), fullWeb(n)} {
					r[at] = s
					if got := impl.WebOk(r); got != (s >= 0 && s < past) {
						t.Fatalf("WebOk(%v) = %v", r, got)
					}
				}
			}
		}
	}
	for _, r := range manyWebs() {
		if !impl.WebOk(r) {
			t.Fatalf("WebOk(%v) = false", r)
		}
	}
}

func TestWebOkOfWrongOnes(t *testing.T) {
	for _, r := range noWebs() {
		if impl.WebOk(r) {
			t.Errorf("WebOk(%v)", r)
		}
	}
}

func TestOfOneWeb(t *testing.T) {
	for _, f := range ofOne() {
		for _, r := range manyWebs() {
			if got, want := f.do(r), f.want(gridOf(r)); !sameList(got, want) || !impl.WebOk(got) {
				t.Fatalf("%s(%v) = %v, want %v", f.name, r, got, want)
			}
		}
	}
}

func checkTwo(t *testing.T, f binary, a []int64, b []int64) {
	t.Helper()
	if got, want := f.do(a, b), f.want(gridOf(a), gridOf(b)); !sameList(got, want) || !impl.WebOk(got) {
		t.Fatalf("%s(%v, %v) = %v, want %v", f.name, a, b, got, want)
	}
}

func TestOfTwoWebs(t *testing.T) {
	for _, f := range ofTwo() {
		for n := 0; n <= 2; n++ {
			for _, a := range allWebs(n) {
				for _, b := range allWebs(n) {
					checkTwo(t, f, a, b)
				}
			}
		}
		webs := stirred()
		for n := 0; n <= impl.MaxSize; n++ {
			webs = append(webs, shapes(n)...)
		}
		for i, a := range webs {
			for _, b := range webs[i:] {
				if len(a) == len(b) {
					checkTwo(t, f, a, b)
					checkTwo(t, f, b, a)
				}
			}
		}
	}
}

func TestOfTwoWebsByHand(t *testing.T) {
	a, b := []int64{2, 4, 0}, []int64{2, 0, 1}
	want := map[string][]int64{"Joined": {2, 4, 1}, "Common": {2, 0, 0}, "Less": {0, 4, 0}, "Then": {0, 1, 0}}
	for _, f := range ofTwo() {
		if got := f.do(a, b); !sameList(got, want[f.name]) {
			t.Errorf("%s = %v, want %v", f.name, got, want[f.name])
		}
	}
	turned := map[string][]int64{"Joined": {2, 4, 1}, "Common": {2, 0, 0}, "Less": {0, 0, 1}, "Then": {4, 0, 2}}
	for _, f := range ofTwo() {
		if got := f.do(b, a); !sameList(got, turned[f.name]) {
			t.Errorf("%s turned = %v, want %v", f.name, got, turned[f.name])
		}
	}
	if got := impl.Back(b); !sameList(got, []int64{4, 1, 0}) {
		t.Errorf("Back = %v", got)
	}
}

func TestNothingOfNoWeb(t *testing.T) {
	for _, wrong := range noWebs() {
		for _, f := range ofOne() {
			if got := f.do(wrong); len(got) != 0 {
				t.Errorf("%s(%v) = %v", f.name, wrong, got)
			}
		}
		right := [][]int64{nil, {1}, wrong}
		if len(wrong) <= impl.MaxSize {
			right = append(right, emptyWeb(len(wrong)), fullWeb(len(wrong)))
		} else {
			right = append(right, emptyWeb(len(wrong)), emptyWeb(impl.MaxSize), fullWeb(impl.MaxSize))
		}
		for _, f := range ofTwo() {
			for _, r := range right {
				if got := f.do(wrong, r); len(got) != 0 {
					t.Errorf("%s(%v, %v) = %v", f.name, wrong, r, got)
				}
				if got := f.do(r, wrong); len(got) != 0 {
					t.Errorf("%s(%v, %v) = %v", f.name, r, wrong, got)
				}
			}
		}
	}
}

func TestNothingOfWebsNotAsMany(t *testing.T) {
	for n := 0; n <= impl.MaxSize; n++ {
		for m := 0; m <= impl.MaxSize; m++ {
			if n == m {
				continue
			}
			for _, f := range ofTwo() {
				for _, a := range [][]int64{emptyWeb(n), fullWeb(n)} {
					for _, b := range [][]int64{emptyWeb(m), fullWeb(m)} {
						if got := f.do(a, b); len(got) != 0 {
							t.Errorf("%s(%v, %v) = %v", f.name, a, b, got)
						}
					}
				}
			}
		}
	}
}

// A web of 0 sets is none of the wrong ones; that its answers are empty is all that can be seen.
func TestOfEmptyWebs(t *testing.T) {
	for _, r := range [][]int64{nil, {}} {
		for _, f := range ofOne() {
			if got := f.do(r); len(got) != 0 {
				t.Errorf("%s of nothing = %v", f.name, got)
			}
		}
		for _, f := range ofTwo() {
			if got := f.do(r, nil); len(got) != 0 {
				t.Errorf("%s of nothing = %v", f.name, got)
			}
		}
	}
}

// handed are lists of every kind: right webs, among them some of MaxSize, and wrong ones.
func handed() [][]int64 {
	lists := [][]int64{nil, {1}, {2, 1}, {2, 4, 1}, {2, 4, 0}, {0, -1}, {math.MaxInt64, math.MinInt64, 3}, emptyWeb(13)}
	lists = append(lists, shapes(5)...)
	return append(lists, shapes(impl.MaxSize)...)
}

// roomy is the list with room behind it, and the whole of its memory.
func roomy(list []int64) ([]int64, []int64) {
	room := append(copied(list), 77, -77, 5, math.MaxInt64)
	return room[:len(list)], room
}

func TestWebsLeaveTheirArgumentsAlone(t *testing.T) {
	for _, one := range handed() {
		a, roomA := roomy(one)
		beforeA := copied(roomA)
		impl.WebOk(a)
		for _, f := range ofOne() {
			answer := f.do(a)
			spoil(answer)
			if !sameList(roomA, beforeA) {
				t.Fatalf("%s(%v) left %v", f.name, one, roomA)
			}
		}
		for _, other := range handed() {
			b, roomB := roomy(other)
			beforeB := copied(roomB)
			for _, f := range ofTwo() {
				spoil(f.do(a, b))
				spoil(f.do(a, a))
				if !sameList(roomA, beforeA) || !sameList(roomB, beforeB) {
					t.Fatalf("%s(%v, %v) left %v and %v", f.name, one, other, roomA, roomB)
				}
			}
		}
	}
}

// One memory may hold both webs, one behind the other or one upon the other.
func TestWebsInOneMemory(t *testing.T) {
	memory := []int64{2, 4, 1, 6, 0, 5, 3}
	before := copied(memory)
	for _, f := range ofTwo() {
		for from := 0; from+3 <= len(memory); from++ {
			for behind := 0; behind+3 <= len(memory); behind++ {
				a, b := memory[from:from+3], memory[behind:behind+3]
				want := f.want(gridOf(a), gridOf(b))
				got := f.do(a, b)
				if !sameList(got, want) {
					t.Fatalf("%s(%v, %v) = %v, want %v", f.name, a, b, got, want)
				}
				spoil(got)
				if !sameList(memory, before) {
					t.Fatalf("%s left %v", f.name, memory)
				}
			}
		}
	}
}

// spoil writes all over an answer and the room behind it.
func spoil(answer []int64) {
	all := answer[:cap(answer)]
	for i := range all {
		all[i] = -99
	}
}

func TestAnswersOfWebsAreNewMemory(t *testing.T) {
	for _, r := range handed() {
		for _, f := range ofOne() {
			first := f.do(r)
			kept := copied(first)
			second := f.do(r)
			spoil(second)
			if !sameList(first, kept) || !sameList(f.do(r), kept) {
				t.Fatalf("two answers of %s(%v) share memory", f.name, r)
			}
		}
		for _, f := range ofTwo() {
			first := f.do(r, r)
			kept := copied(first)
			second := f.do(r, r)
			spoil(second)
			if !sameList(first, kept) || !sameList(f.do(r, r), kept) {
				t.Fatalf("two answers of %s(%v, itself) share memory", f.name, r)
			}
		}
	}
}

// An answer does not hang on the room that an argument has.
func TestWebsAnswerWithRoomAsWithout(t *testing.T) {
	for _, r := range handed() {
		tight := copied(r)
		loose, _ := roomy(r)
		if impl.WebOk(tight) != impl.WebOk(loose) {
			t.Errorf("WebOk(%v) hangs on the room behind it", r)
		}
		for _, f := range ofOne() {
			if !sameList(f.do(tight), f.do(loose)) {
				t.Errorf("%s(%v) hangs on the room behind it", f.name, r)
			}
		}
		for _, f := range ofTwo() {
			if !sameList(f.do(tight, tight), f.do(loose, loose)) {
				t.Errorf("%s(%v) hangs on the room behind it", f.name, r)
			}
		}
	}
}
