package tests

import (
	"cmp"
	"fmt"
	"slices"
	"strings"
	"testing"

	"loop.example/g00411/impl"
)

// someSteps rise as far as there are steps at all.
var someSteps = append(upTo(-13, 34), append([]int64{100, 101, 110, 111, 256, 1000, 1 << 32, 1<<32 + 1, 1<<32 + 10, 1 << 62, -100, -1 << 32, -1<<32 + 10}, far...)...)

func upTo(first int64, last int64) []int64 {
	list := []int64{}
	for n := first; n <= last; n++ {
		list = append(list, n)
	}
	return list
}

// quickTold is what Quick makes of a right board. A write beside 8 notes leaves 9, of which no step goes on: Stepped answers the zero Board there.
func quickTold(b impl.Board, list []impl.Event, clerk int64) (impl.Board, bool) {
	if clerk < 0 || clerk >= int64(len(b.Work)) {
		return copiedBoard(b), false
	}
	then, can := stepTold(b, list, clerk)
	if !can || len(then.Notes[clerk]) == 0 {
		return then, can
	}
	if !isBoard(then) {
		return impl.Board{}, true
	}
	return stepTold(then, list, 10+clerk)
}

// mustStep holds all that chapter 15 tells of a board, or of what is none, against what the test tells; it answers what is Possible.
func mustStep(t *testing.T, b impl.Board) []int64 {
	t.Helper()
	is, possible := isBoard(b), []int64{}
	list := []impl.Event{}
	if is {
		list = eventsTold(b.Work)
	}
	for _, s := range someSteps {
		want, can := impl.Board{}, false
		if is {
			want, can = stepTold(b, list, s)
		}
		if can {
			possible = append(possible, s)
		}
		if got, ok := impl.Stepped(b, s); ok != can || !sameBoard(got, want) {
			t.Fatalf("Stepped(%v, %d) = %v, %v; want %v, %v", b, s, got, ok, want, can)
		}
	}
	if got := impl.Possible(b); !sameList(got, possible) {
		t.Fatalf("Possible(%v) = %v, want %v", b, got, possible)
	}
	for _, clerk := range someClerks {
		want, can := impl.Board{}, false
		if is {
			want, can = quickTold(b, list, clerk)
		}
		if got, ok := impl.Quick(b, clerk); ok != can || !sameBoard(got, want) {
			t.Fatalf("Quick(%v, %d) = %v, %v; want %v, %v", b, clerk, got, ok, want, can)
		}
	}
	return possible
}

// mustNotStep asks without the test's own reading, too.
func mustNotStep(t *testing.T, b impl.Board, what string) {
	t.Helper()
	if got := mustStep(t, b); len(got) != 0 || len(impl.Possible(b)) != 0 {
		t.Errorf("%s: Possible(%v) = %v", what, b, impl.Possible(b))
	}
	for _, s := range someSteps {
		if got, ok := impl.Stepped(b, s); ok || !sameBoard(got, impl.Board{}) {
			t.Errorf("%s: Stepped(%v, %d) = %v, %v", what, b, s, got, ok)
		}
		if got, ok := impl.Quick(b, s); ok || !sameBoard(got, impl.Board{}) {
			t.Errorf("%s: Quick(%v, %d) = %v, %v", what, b, s, got, ok)
		}
	}
}

// mustDoWhatIsPossible is promise 15, by the program's own answers; it answers the boards that come of it.
func mustDoWhatIsPossible(t *testing.T, b impl.Board) []impl.Board {
	t.Helper()
	possible, after := impl.Possible(b), []impl.Board{}
	for i := range possible {
		if i > 0 && possible[i-1] >= possible[i] {
			t.Fatalf("Possible(%v) = %v does not rise", b, possible)
		}
	}
	for _, s := range someSteps {
		got, ok := impl.Stepped(b, s)
		can := slices.Contains(possible, s)
		if ok != can || sameBoard(got, b) == can || !impl.BoardOk(got) {
			t.Fatalf("Stepped(%v, %d) = %v, %v; Possible is %v", b, s, got, ok, possible)
		}
		if can {
			after = append(after, got)
		}
	}
	if len(after) != len(possible) {
		t.Fatalf("Possible(%v) = %v, and there are no such steps", b, possible)
	}
	if ended := impl.Ended(b); ended != (len(possible) == 0) {
		t.Fatalf("Possible(%v) = %v, and Ended %v", b, possible, ended)
	}
	return after
}

// toGo is never less than how many steps a board is from its end: each Deed may leave a note.
func toGo(b impl.Board) int64 {
	n := int64(0)
	for c := range b.Work {
		n += 2*(int64(len(b.Work[c]))-b.Next[c]) + int64(len(b.Notes[c]))
	}
	return n
}

// Promise 15: from a new board on, whatever is picked. Each step leaves less to do, and only where all is ended nothing is Possible: so that each way ends there.
func TestWhatIsPossibleIsDone(t *testing.T) {
	ended, steps := 0, 0
	for _, text := range append(walkedWorks(), rightWorks()...) {
		w := clerksNamed(text)
		first, ok := impl.NewBoard(w)
		if !ok {
			t.Fatalf("%q has no board", text)
		}
		boards, met := []impl.Board{first}, map[string]bool{}
		met[fmt.Sprint(first)] = true
		for i := 0; i < len(boards); i++ {
			b := boards[i]
			for _, then := range mustDoWhatIsPossible(t, b) {
				steps++
				if toGo(then) >= toGo(b) {
					t.Fatalf("%v comes of %v and is no nearer to the end", then, b)
				}
				if key := fmt.Sprint(then); !met[key] {
					met[key] = true
					boards = append(boards, then)
				}
			}
			if impl.Ended(b) {
				ended++
			}
		}
		// None is missing, and none is there that should not come.
		want := boardsOf(w)
		for _, b := range want {
			if !met[fmt.Sprint(b)] {
				t.Errorf("nobody comes to %v", b)
			}
		}
		if len(want) != len(boards) {
			t.Errorf("of %q come %d boards, want %d", text, len(boards), len(want))
		}
	}
	if ended == 0 || steps == 0 {
		t.Errorf("%d boards ended, %d steps", ended, steps)
	}
}

// picked goes on from a new board till nothing is Possible: pick says which one of them is next. No way is longer than 12 Deeds and 6 notes.
func picked(t *testing.T, w [][]impl.Deed, pick func(n int, possible []int64) int64) ([]int64, impl.Board) {
	t.Helper()
	b, ok := impl.NewBoard(w)
	steps := []int64{}
	for n := 0; ok; n++ {
		possible := impl.Possible(b)
		if len(possible) == 0 {
			break
		}
		s := pick(n, possible)
		steps = append(steps, s)
		if b, ok = impl.Stepped(b, s); !ok || len(steps) > 18 {
			t.Fatalf("of %v by %v comes %v", w, steps, b)
		}
	}
	return steps, b
}

// someWorks are too many, or have too many boards, for all of them to be gone through.
func someWorks() [][][]impl.Deed {
	works := [][][]impl.Deed{}
	for _, one := range mixedClerks() {
		for i, two := range mixedClerks() {
			works = append(works, workOf(one, two), workOf(two, mixedClerks()[(i*7)%len(mixedClerks())], one))
		}
	}
	for _, text := range []string{
		"write x 1; write y 2; write z 3; write x 4; write y 5 | write z 6", "write x 1; write y 2 | write y 3; write z 4 | write z 5; write x 6", "write x 1; wait; write y 2; wait; read z | write z 3; wait; swap x 4 | wait; wait; wait; wait",
		"write x 1 in 1; write y 1 in 1; read x in 1 | write x 2 in 2; write y 2 in 2; read y in 2", "write x 1; write y 2; wait; wait | write x 3; wait; write z 4; wait | wait; write y 5; wait; write z 6", "write x 1; read y in 4; write z 3 in 4; read z in 5; write y 2 in 5 | wait; read z",
	} {
		works = append(works, clerksNamed(text))
	}
	return works
}

// Promise 15: some ways from a new board to its end; what is Ran by the same steps is the same.
func TestSomebodyCanAlwaysGoOn(t *testing.T) {
	right, longest := 0, 0
	for _, w := range someWorks() {
		if !isWork(w) {
			continue
		}
		right++
		for i, pick := range []func(n int, possible []int64) int64{
			func(n int, possible []int64) int64 { return possible[0] },
			func(n int, possible []int64) int64 { return possible[len(possible)-1] },
			func(n int, possible []int64) int64 { return possible[n%len(possible)] },
			func(n int, possible []int64) int64 { return possible[(n*n+n/2)%len(possible)] },
		} {
			steps, b := picked(t, w, pick)
			if !impl.Ended(b) {
				t.Fatalf("way %d of %v: nobody goes on at %v", i, w, b)
			}
			ran, ok := impl.Ran(w, steps)
			if !ok || !sameBoard(ran, b) {
				t.Fatalf("Ran(%v, %v) = %v, %v; want %v", w, steps, ran, ok, b)
			}
			// Where all is done nothing changes any more.
			again, ok := impl.Ran(w, append(copied(steps), 0, 1, 2, 10, 11, 12))
			if !ok || !sameBoard(again, b) {
				t.Fatalf("Ran(%v, %v and more) = %v, %v; want %v", w, steps, again, ok, b)
			}
			longest = max(longest, len(steps))
		}
	}
	if right == 0 || longest != 18 {
		t.Errorf("%d works, the longest way has %d steps", right, longest)
	}
}

// All four at all boards that come of some works.
func TestStepsOfManyBoards(t *testing.T) {
	boards, met := 0, map[string]int{}
	for _, text := range walkedWorks() {
		for _, b := range boardsOf(clerksNamed(text)) {
			boards++
			for _, s := range mustStep(t, b) {
				met[stepName(b, s)]++
			}
		}
	}
	for _, what := range []string{"note", "read", "write", "swap", "wait", "read in a Group", "write in a Group", "read beside notes", "write beside notes", "read with a note on its place"} {
		if met[what] == 0 {
			t.Errorf("at %d boards nobody did a %s: %v", boards, what, met)
		}
	}
}

// stepName tells apart what a step that is Possible may be.
func stepName(b impl.Board, s int64) string {
	if s >= 10 {
		return "note"
	}
	d := b.Work[s][b.Next[s]]
	name := []string{"", "read", "write", "swap", "wait"}[d.Kind]
	switch notes := b.Notes[s]; {
	case d.Group != 0:
		return name + " in a Group"
	case d.Kind == 1 && slices.ContainsFunc(notes, func(n impl.Note) bool { return n.Place == d.Place }):
		return name + " with a note on its place"
	case len(notes) > 0:
		return name + " beside notes"
	}
	return name
}

// strayBoards are right, but did not come of steps: each clerk anywhere in its Deeds, with no notes, some and as many as there may be, with Rows that are empty or full, and reads that saw something already.
func strayBoards() []impl.Board {
	boards := rightBoards()
	for _, text := range append(walkedWorks(), "read x in 1; write y 2 in 1; read y in 1; write x 3 in 1; wait | swap z 4", "write x 1; read x; wait; swap y 2 | read x in 1; write y 3 in 1") {
		for i, notes := range []string{"", "x90", "y02 x11 y20 z31", "z10 z20 x30 x40 y50 y60 z70 x82"} {
			for n := range 6 {
				b := boardTold(clerksNamed(text))
				for c, list := range b.Work {
					b.Next[c] = int64(min(n, len(list)))
					if (c+n)%2 == 0 || i%2 == 1 {
						b.Notes[c] = notesNamed(notes)
					}
				}
				for place := range b.Rows {
					b.Rows[place] = sized([]int64{2, 1, 0}, []int{0, 3, 19, 20}[(place+n)%4])
				}
				for read := range b.Seen {
					b.Seen[read], b.From[read] = int64(read+n)%11-1, int64(read)%4-1
				}
				b.Places, b.Lasts = numbersNamed("975"), numbersNamed("210")
				boards = append(boards, b)
			}
		}
	}
	return boards
}

func TestStepsOfStrayBoards(t *testing.T) {
	nine, full := 0, 0
	for _, b := range strayBoards() {
		mustBeBoard(t, b, "a stray one")
		for _, s := range mustStep(t, b) {
			then, ok := impl.Stepped(b, s)
			if !ok || sameBoard(then, b) {
				t.Errorf("Stepped(%v, %d) = %v, %v", b, s, then, ok)
			}
			// What is done is done though there is no room for it: what comes of that is no board any more.
			for c := range then.Notes {
				nine += len(then.Notes[c]) / 9
			}
			for _, row := range then.Rows {
				full += len(row) / 21
			}
		}
	}
	if nine == 0 || full == 0 {
		t.Errorf("%d boards have a note too many, %d a row that is too long", nine, full)
	}
}

// Each number of some boards at both ends of its bound, and past them.
func TestStepsAtEachNumberOfABoard(t *testing.T) {
	for _, right := range append(fullBoards(), boardTold(clerksNamed("write x 1; read x | swap y 2; wait"))) {
		for i := range slotsOf(right) {
			b := copiedBoard(right)
			s := slotsOf(b)[i]
			for _, n := range []int64{s.least, s.most} {
				*s.at = n
				mustBeBoard(t, b, s.what)
				mustStep(t, b)
			}
			for _, n := range append([]int64{s.least - 1, s.most + 1}, far...) {
				*s.at = n
				mustNotStep(t, b, s.what)
			}
		}
	}
}

// digitText has - for each -1, and a point for nothing.
func digitText(list []int64) string {
	text := ""
	for _, n := range list {
		text += strings.Replace(fmt.Sprint(n), "-1", "-", 1)
	}
	if text == "" {
		return "."
	}
	return text
}

// boardText is of a board all but its work: Places, Lasts, Next, Seen, From, Rows with / between, and each clerk's notes with | between.
func boardText(b impl.Board) string {
	rows, notes := []string{}, []string{}
	for _, row := range b.Rows {
		rows = append(rows, digitText(row))
	}
	for _, list := range b.Notes {
		words := []string{}
		for _, n := range list {
			words = append(words, fmt.Sprintf("%c%d%d", rune('x'+n.Place), n.Value, n.Event))
		}
		if len(words) == 0 {
			words = []string{"."}
		}
		notes = append(notes, strings.Join(words, ","))
	}
	return strings.Join([]string{digitText(b.Places), digitText(b.Lasts), digitText(b.Next), digitText(b.Seen), digitText(b.From), strings.Join(rows, "/"), strings.Join(notes, "|")}, " ")
}

// boardNamed is the board of which boardText makes that.
func boardNamed(work string, text string) impl.Board {
	words := strings.Split(strings.ReplaceAll(text, ".", ""), " ")
	b := impl.Board{Work: clerksNamed(work), Places: digitsNamed(words[0]), Lasts: digitsNamed(words[1]), Next: digitsNamed(words[2]), Seen: digitsNamed(words[3]), From: digitsNamed(words[4])}
	for row := range strings.SplitSeq(words[5], "/") {
		b.Rows = append(b.Rows, digitsNamed(row))
	}
	for notes := range strings.SplitSeq(words[6], "|") {
		b.Notes = append(b.Notes, notesNamed(strings.ReplaceAll(notes, ",", " ")))
	}
	if boardText(b) != text || !isBoard(b) {
		panic(text + " is no board's text")
	}
	return b
}

// One step from a board that is written out to one that is.
func TestSteppedByHand(t *testing.T) {
	const own, two, swaps, group = "write x 1; read x; read y", "write x 1; read y | write y 2; read x", "write x 1; swap x 2; wait; read x | swap x 3", "write x 4; write x 1 in 1; read x in 1; write y 2 in 1; read y | read x"
	for _, c := range []struct {
		work, before string
		s            int64
		after        string
	}{
		// A write is a note more, the newest; the board is as it was.
		{own, "000 012 0 -- -- 0/1/2 .", 0, "000 012 1 -- -- 0/1/2 x13"},
		{"write x 1; write x 2; write z 3", "000 012 1 . . 0/1/2 x13", 0, "000 012 2 . . 0/1/2 x13,x24"},
		{"write x 1; write x 2; write z 3", "000 012 2 . . 0/1/2 x13,x24", 0, "000 012 3 . . 0/1/2 x13,x24,z35"},
		{two, "000 012 00 -- -- 0/1/2 .|.", 1, "000 012 01 -- -- 0/1/2 .|y25"},
		{two, "000 012 10 -- -- 0/1/2 x13|.", 1, "000 012 11 -- -- 0/1/2 x13|y25"},
		// A read sees its own newest note, or the board; nothing else changes.
		{own, "000 012 1 -- -- 0/1/2 x13", 0, "000 012 2 1- 3- 0/1/2 x13"},
		{own, "100 312 1 -- -- 03/1/2 .", 0, "100 312 2 1- 3- 03/1/2 ."},
		{own, "000 012 2 1- 3- 0/1/2 x13", 0, "000 012 3 10 31 0/1/2 x13"},
		{"write x 1; write x 2; read x", "000 012 2 - - 0/1/2 x13,x24", 0, "000 012 3 2 4 0/1/2 x13,x24"},
		{"write x 1; write x 2; read x", "100 312 2 - - 03/1/2 x24", 0, "100 312 3 2 4 03/1/2 x24"},
		{two, "000 012 11 -- -- 0/1/2 x13|y25", 0, "000 012 21 0- 1- 0/1/2 x13|y25"},
		{two, "000 012 21 0- 1- 0/1/2 x13|y25", 1, "000 012 22 00 10 0/1/2 x13|y25"},
		{two, "100 312 21 0- 1- 03/1/2 .|y25", 1, "100 312 22 01 13 03/1/2 .|y25"},
		// The oldest note comes to the board: its Value, its event, and its row.
		{own, "000 012 1 -- -- 0/1/2 x13", 10, "100 312 1 -- -- 03/1/2 ."},
		{"write x 1; write x 2; write z 3", "000 012 3 . . 0/1/2 x13,x24,z35", 10, "100 312 3 . . 03/1/2 x24,z35"},
		{"write x 1; write x 2; write z 3", "100 312 3 . . 03/1/2 x24,z35", 10, "200 412 3 . . 034/1/2 z35"},
		{"write x 1; write x 2; write z 3", "200 412 3 . . 034/1/2 z35", 10, "203 415 3 . . 034/1/25 ."},
		{two, "000 012 11 -- -- 0/1/2 x13|y25", 11, "020 052 11 -- -- 0/15/2 x13|."},
		{two, "020 052 11 -- -- 0/15/2 x13|.", 10, "120 352 11 -- -- 03/15/2 .|."},
		{"- | - | write z 9", "000 012 001 . . 0/1/2 .|.|z93", 12, "009 013 001 . . 0/1/23 .|.|."},
		// A wait does nothing, and a swap reads and writes the board.
		{"wait; wait", "000 012 0 . . 0/1/2 .", 0, "000 012 1 . . 0/1/2 ."},
		{swaps, "200 512 20 0-- 0-- 05/1/2 .|.", 0, "200 512 30 0-- 0-- 05/1/2 .|."},
		{swaps, "100 312 10 --- --- 03/1/2 .|.", 0, "200 512 20 1-- 3-- 035/1/2 .|."},
		{swaps, "000 012 10 --- --- 0/1/2 x13|.", 1, "300 812 11 --0 --0 08/1/2 x13|."},
		{swaps, "300 812 11 --0 --0 08/1/2 x13|.", 10, "100 312 11 --0 --0 083/1/2 .|."},
		{"swap z 5", "000 012 0 - - 0/1/2 .", 0, "005 014 1 0 2 0/1/24 ."},
		// All of a Group is done at once: it reads from the board, and what it wrote is there; what stands behind it is not done.
		{group, "400 312 10 --- --- 03/1/2 .|.", 0, "120 462 40 1-- 4-- 034/16/2 .|."},
		{group, "400 312 11 --4 --3 03/1/2 .|.", 0, "120 462 41 1-4 4-3 034/16/2 .|."},
		{"read x in 1; write x 1 in 1 | -", "700 212 00 - - 0/1/2 .|x90", 0, "100 412 20 7 2 04/1/2 .|x90"},
		{"read x in 1; read x in 2; write x 3 in 2", "000 012 0 -- -- 0/1/2 .", 0, "000 012 1 0- 0- 0/1/2 ."},
		{"read x in 1; read x in 2; write x 3 in 2", "000 012 1 0- 0- 0/1/2 .", 0, "300 512 3 00 00 05/1/2 ."},
		{"read x in 9; read y; write x 3 | read z in 8", "000 012 00 --- --- 0/1/2 .|.", 0, "000 012 10 0-- 0-- 0/1/2 .|."},
		{"write x 1 in 1; write x 2 in 1; write x 3 in 1", "000 012 0 . . 0/1/2 .", 0, "300 512 3 . . 0345/1/2 ."},
		// In the middle of a Group, where no step leaves a clerk: this one and those behind it.
		{group, "000 012 20 --- --- 0/1/2 .|.", 0, "020 062 40 0-- 0-- 0/16/2 .|."},
		{group, "000 012 30 --- --- 0/1/2 .|.", 0, "020 062 40 --- --- 0/16/2 .|."},
		// A read that was told already, notes of events that wrote elsewhere, of nobody, of a read; Rows that are empty.
		{own, "700 212 1 99 00 ././2 .", 0, "700 212 2 79 20 ././2 ."},
		{own, "700 212 2 -9 5- ././2 y04,x90", 0, "700 212 3 -0 54 ././2 y04,x90"},
		{own, "700 212 3 -9 5- ././2 y04,x90", 10, "700 242 3 -9 5- ./4/2 x90"},
		{own, "700 242 3 -9 5- ./4/2 x90", 10, "900 042 3 -9 5- 0/4/2 ."},
		// As many notes as there may be, and a row that is full.
		{"write x 1", "000 012 0 . . 0/1/2 z02,z02,z02,z02,z02,z02,z02,z02", 0, "000 012 1 . . 0/1/2 z02,z02,z02,z02,z02,z02,z02,z02,x13"},
		{"write x 1", "000 012 0 . . 0/1/01201201201201201201 z93", 10, "009 013 0 . . 0/1/012012012012012012013 ."},
		{"swap y 1", "000 012 0 - - 0/11111111111111111111/2 .", 0, "010 042 1 0 1 0/111111111111111111114/2 ."},
		{"write y 1 in 1; write y 2 in 1", "000 012 0 . . 0/1111111111111111111/2 .", 0, "020 042 2 . . 0/111111111111111111134/2 ."},
	} {
		b := boardNamed(c.work, c.before)
		got, ok := impl.Stepped(b, c.s)
		if !ok || boardText(got) != c.after || !sameWork(got.Work, b.Work) {
			t.Errorf("of %q, at %s, by %d comes %s, %v; want %s", c.work, c.before, c.s, boardText(got), ok, c.after)
		}
		if boardText(b) != c.before {
			t.Errorf("of %s is left %s", c.before, boardText(b))
		}
		mustStep(t, b)
	}
}

// What is Possible at a board: by the Deeds that are done, and by the notes.
func TestPossibleByHand(t *testing.T) {
	const kinds = "read x; write y 1; wait; swap z 2; read x in 1"
	const three = "write x 1; wait; read x | swap x 2 | read x in 1; write y 3 in 1"
	for _, c := range []struct{ work, next, notes, want string }{
		// A next Deed of each Kind, without notes, with one of its own, and with those of another clerk.
		{kinds, "0", "", "0"}, {kinds, "1", "", "0"}, {kinds, "2", "", "0"}, {kinds, "3", "", "0"}, {kinds, "4", "", "0"}, {kinds, "5", "", ""},
		{kinds, "0", "x13", "0 10"}, {kinds, "1", "x13", "0 10"}, {kinds, "2", "x13", "10"}, {kinds, "3", "x13", "10"}, {kinds, "4", "x13", "10"}, {kinds, "5", "x13", "10"},
		{kinds + " | -", "00", "|y14", "0 11"}, {kinds + " | -", "10", "|y14", "0 11"}, {kinds + " | -", "20", "|y14", "0 11"}, {kinds + " | -", "30", "|y14", "0 11"}, {kinds + " | -", "40", "|y14", "0 11"}, {kinds + " | -", "50", "|y14", "11"},
		{kinds + " | -", "20", "z00|y14", "10 11"}, {kinds + " | -", "10", "z00|y14", "0 10 11"},
		// A write of a Group, and in the middle of one.
		{"write x 1 in 1; write y 1 in 1", "0", "", "0"}, {"write x 1 in 1; write y 1 in 1", "0", "x13", "10"}, {"write x 1 in 1; write y 1 in 1", "1", "", "0"}, {"write x 1 in 1; write y 1 in 1", "1", "x13", "10"}, {"write x 1 in 1; write y 1 in 1", "2", "", ""},
		// Nobody: nothing to do, or all is done.
		{"-", "0", "", ""}, {"- | -", "00", "|", ""}, {"- | - | -", "000", "||", ""}, {three, "312", "||", ""},
		// No next Deed, but notes: one, several, as many as there may be.
		{"-", "0", "x00", "10"}, {"- | - | -", "000", "||z12 x12", "12"}, {three, "312", "x13 x13 x13 x13 x13 x13 x13 x13||", "10"}, {three, "312", "x13|y04|z00", "10 11 12"},
		// Two and three clerks.
		{three, "000", "||", "0 1 2"}, {three, "100", "x13||", "1 2 10"}, {three, "100", "||", "0 1 2"}, {three, "000", "x13||", "0 1 2 10"}, {three, "000", "|x13|", "0 2 11"}, {three, "000", "||x13", "0 1 12"}, {three, "000", "x13|x13|x13", "0 10 11 12"}, {three, "200", "x13|x13|x13", "0 10 11 12"}, {three, "100", "x13|x13|x13", "10 11 12"}, {three, "210", "x13||", "0 2 10"}, {three, "311", "|x13|", "2 11"}, {three, "302", "||", "1"},
		{"write x 1; read y | write y 1; read x", "22", "x13|y15", "10 11"}, {"write x 1; read y | write y 1; read x", "12", "x13|", "0 10"}, {"write x 1; read y | write y 1; read x", "20", "|", "1"}, {"- | read x", "00", "|", "1"}, {"- | - | write z 1", "000", "||", "2"},
	} {
		b := withNotes(c.work, c.notes)
		b.Next = numbersNamed(c.next)
		mustBeBoard(t, b, c.work)
		if got := strings.Trim(fmt.Sprint(impl.Possible(b)), "[]"); got != c.want {
			t.Errorf("of %q, %s done, notes %q, Possible is %s, want %s", c.work, c.next, c.notes, got, c.want)
		}
		mustStep(t, b)
		// What else stands there is not asked, as long as it is right.
		b.Places, b.Lasts, b.Rows = numbersNamed("987"), numbersNamed("210"), [][]int64{nil, make([]int64, 20), {1}}
		for i := range b.Seen {
			b.Seen[i], b.From[i] = 9, 0
		}
		if got := strings.Trim(fmt.Sprint(impl.Possible(b)), "[]"); got != c.want {
			t.Errorf("Possible(%v) = %s, want %s", b, got, c.want)
		}
		b.Places[1] = 10
		mustNotStep(t, b, c.work)
	}
}

// Steps that there are not, and steps that are not Possible: the board as it is, and false.
func TestStepsThatAreNotDone(t *testing.T) {
	for _, c := range []struct{ work, next, notes string }{
		{"write x 1; wait; read y", "1", "x13"}, {"-", "0", ""}, {"read x | swap y 1", "01", "|y24 x03"}, {"read x | swap y 1 | wait", "000", "z14|z14|z14"}, {"write x 1 | write y 2 in 1 | write z 3", "000", "||"}, {"read x | read x | read x", "111", "x00|y00|z00"},
	} {
		b := withNotes(c.work, c.notes)
		b.Next = numbersNamed(c.next)
		possible := mustStep(t, b)
		for _, s := range append(upTo(-1000, 1000), someSteps...) {
			got, ok := impl.Stepped(b, s)
			if slices.Contains(possible, s) {
				continue
			}
			if ok || !sameBoard(got, b) {
				t.Errorf("Stepped(%v, %d) = %v, %v", b, s, got, ok)
			}
		}
		for _, s := range append(append(upTo(-1000, -1), upTo(3, 1000)...), far...) {
			// No number that is no clerk's is one to Quick, though it may be a step.
			if got, ok := impl.Quick(b, s); ok || !sameBoard(got, b) {
				t.Errorf("Quick(%v, %d) = %v, %v", b, s, got, ok)
			}
		}
	}
}

func TestQuickByHand(t *testing.T) {
	const own, two, group = "write x 1; read x; read y", "write x 1; read y | write y 2; read x", "write x 4; write x 1 in 1; read x in 1; write y 2 in 1; read y | read x"
	for _, c := range []struct {
		work, before string
		clerk        int64
		after        string
	}{
		// It reads, with and without notes: then its oldest note comes, too.
		{"read x; read y", "000 012 0 -- -- 0/1/2 .", 0, "000 012 1 0- 0- 0/1/2 ."},
		{own, "100 312 1 -- -- 03/1/2 .", 0, "100 312 2 1- 3- 03/1/2 ."},
		{own, "000 012 1 -- -- 0/1/2 x13", 0, "100 312 2 1- 3- 03/1/2 ."},
		{own, "000 012 1 -- -- 0/1/2 x93,x24,y52", 0, "900 312 2 2- 4- 03/1/2 x24,y52"},
		{two, "000 012 11 -- -- 0/1/2 .|y25", 0, "000 012 21 0- 1- 0/1/2 .|y25"},
		{two, "000 012 11 -- -- 0/1/2 x13|y25", 1, "020 052 12 -0 -0 0/15/2 x13|."},
		// It writes: at once to the board, or behind what it wrote before.
		{own, "000 012 0 -- -- 0/1/2 .", 0, "100 312 1 -- -- 03/1/2 ."},
		{two, "000 012 00 -- -- 0/1/2 .|.", 1, "020 052 01 -- -- 0/15/2 .|."},
		{two, "000 012 10 -- -- 0/1/2 x13|.", 1, "020 052 11 -- -- 0/15/2 x13|."},
		{"write x 1; write x 2", "000 012 1 . . 0/1/2 x13", 0, "100 312 2 . . 03/1/2 x24"},
		{"- | - | write z 3", "000 012 000 . . 0/1/2 .|x00|.", 2, "003 013 001 . . 0/1/23 .|x00|."},
		// It waits, it swaps, it works in a Group.
		{"wait; wait | -", "000 012 00 . . 0/1/2 .|y91", 0, "000 012 10 . . 0/1/2 .|y91"},
		{"read x | swap x 3", "000 012 00 -- -- 0/1/2 x93|.", 1, "300 512 01 -0 -0 05/1/2 x93|."},
		{group, "400 312 10 --- --- 03/1/2 .|.", 0, "120 462 40 1-- 4-- 034/16/2 .|."},
		// Not Possible, though a note could come: no next Deed, or one that wants no notes.
		{own, "000 012 3 10 31 0/1/2 x13", 0, ""}, {own, "000 012 3 10 31 0/1/2 .", 0, ""}, {"-", "000 012 0 . . 0/1/2 .", 0, ""}, {"wait", "000 012 0 . . 0/1/2 x00", 0, ""}, {"swap x 1", "000 012 0 - - 0/1/2 x00", 0, ""}, {"read x in 1", "000 012 0 - - 0/1/2 x00", 0, ""}, {"write x 1 in 1", "000 012 0 . . 0/1/2 x00,z01", 0, ""},
		// No such clerk, though there is such a step.
		{own, "000 012 1 -- -- 0/1/2 x13", 1, ""}, {own, "000 012 1 -- -- 0/1/2 x13", 10, ""}, {own, "000 012 1 -- -- 0/1/2 x13", -1, ""}, {two, "000 012 11 -- -- 0/1/2 x13|y25", 10, ""}, {two, "000 012 11 -- -- 0/1/2 x13|y25", 11, ""}, {two, "000 012 11 -- -- 0/1/2 x13|y25", 2, ""},
		// The last note for which there is room; and a row that has none.
		{"write x 1", "000 012 0 . . 0/1/2 z02,z02,z02,z02,z02,z02,z02", 0, "000 012 1 . . 0/1/22 z02,z02,z02,z02,z02,z02,x13"},
		{"read x; read y", "000 012 0 -- -- 0/1/2 z02,z02,z02,z02,z02,z02,z02,z02", 0, "000 012 1 0- 0- 0/1/22 z02,z02,z02,z02,z02,z02,z02"},
		{"write y 5", "000 012 0 . . 0/11111111111111111111/2 .", 0, "050 032 1 . . 0/111111111111111111113/2 ."},
	} {
		b := boardNamed(c.work, c.before)
		got, ok := impl.Quick(b, c.clerk)
		if after := cmp.Or(c.after, c.before); ok != (c.after != "") || boardText(got) != after || !sameWork(got.Work, b.Work) {
			t.Errorf("of %q, at %s, quick by %d comes %s, %v; want %s", c.work, c.before, c.clerk, boardText(got), ok, after)
		}
		mustStep(t, b)
	}
}

// A note more than there may be: no step goes on from there, so that by the words of the chapter the zero Board is left of it.
func TestQuickWithANoteTooMany(t *testing.T) {
	b := withNotes("write x 1; write y 2 | -", "z02 z02 z02 z02 z02 z02 z02 z02|x00")
	nine, ok := impl.Stepped(b, 0)
	if !ok || len(nine.Notes[0]) != 9 || impl.BoardOk(nine) {
		t.Errorf("Stepped(%v, 0) = %v, %v", b, nine, ok)
	}
	mustNotStep(t, nine, "nine notes")
	if got, ok := impl.Quick(b, 0); !ok || !sameBoard(got, impl.Board{}) {
		t.Errorf("Quick(%v, 0) = %v, %v", b, got, ok)
	}
	mustStep(t, b)
}

// apart is a board but for its work and for how much of it is done.
func apart(b impl.Board) impl.Board {
	made := copiedBoard(b)
	made.Work, made.Next = nil, nil
	return made
}

// quickBy lets one clerk go on by Quick that many times.
func quickBy(t *testing.T, b impl.Board, clerk int64, count int) impl.Board {
	t.Helper()
	for range count {
		then, ok := impl.Quick(b, clerk)
		if !ok {
			t.Fatalf("Quick(%v, %d) = %v, %v", b, clerk, then, ok)
		}
		b = then
	}
	return b
}

// What is done in one go comes to the same as a clerk that is quick, with nobody in between: a swap is a read and a write, a Group its Deeds.
func TestInOneGoIsQuick(t *testing.T) {
	swaps, groups := 0, 0
	boards := strayBoards()
	for _, text := range append(walkedWorks(), "swap x 1; read x | swap x 2; write x 3", "read x in 1; write x 1 in 1; read x in 1 | read x in 2; write x 2 in 2") {
		boards = append(boards, boardsOf(clerksNamed(text))...)
	}
	for _, b := range boards {
		for _, s := range impl.Possible(b) {
			if s >= 10 {
				continue
			}
			parted, count := copiedBoard(b), 1
			list, next := parted.Work[s], int(b.Next[s])
			switch d := list[next]; {
			case d.Kind == impl.DdSwap:
				swaps, count = swaps+1, 2
				parted.Work[s] = slices.Insert(list, next, impl.Deed{Kind: impl.DdRead, Place: d.Place})
				parted.Work[s][next+1].Kind = impl.DdWrite
			case d.Group != 0:
				groups, count = groups+1, 0
				for i := next; i < len(list) && list[i].Group == d.Group; i++ {
					list[i].Group, count = 0, count+1
				}
			default:
				continue
			}
			then, ok := impl.Stepped(b, s)
			if !ok || !isBoard(parted) || !isBoard(then) {
				continue
			}
			if quick := quickBy(t, parted, s, count); !sameBoard(apart(then), apart(quick)) {
				t.Errorf("Stepped(%v, %d) = %v; parted and quick it is %v", b, s, then, quick)
			}
		}
	}
	if swaps == 0 || groups == 0 {
		t.Errorf("%d swaps, %d Groups", swaps, groups)
	}
}

// A step of one clerk leaves the others as they were: what they have done, their notes, and what their reads saw; a note changes nobody's reads.
func TestAStepIsOneClerks(t *testing.T) {
	boards := strayBoards()
	for _, text := range walkedWorks() {
		boards = append(boards, boardsOf(clerksNamed(text))...)
	}
	for _, b := range boards {
		list := impl.EventsOf(b.Work)
		for _, s := range impl.Possible(b) {
			then, _ := impl.Stepped(b, s)
			for c := range b.Work {
				if int64(c) != s%10 && (then.Next[c] != b.Next[c] || !slices.Equal(then.Notes[c], b.Notes[c])) {
					t.Fatalf("Stepped(%v, %d) = %v", b, s, then)
				}
			}
			for i, n := range impl.ReadsOf(list) {
				e := list[n]
				done := s < 10 && e.Clerk == s && e.Deed >= b.Next[s] && e.Deed < then.Next[s]
				if !done && (then.Seen[i] != b.Seen[i] || then.From[i] != b.From[i]) {
					t.Fatalf("Stepped(%v, %d) = %v", b, s, then)
				}
			}
			if !sameWork(then.Work, b.Work) || s >= 10 && !sameList(then.Next, b.Next) {
				t.Fatalf("Stepped(%v, %d) = %v", b, s, then)
			}
		}
	}
}

// ranTold goes on from the test's own new board.
func ranTold(w [][]impl.Deed, steps []int64) (impl.Board, bool) {
	if !isWork(w) || len(steps) > 40 {
		return impl.Board{}, false
	}
	b, list := boardTold(w), eventsTold(w)
	for _, s := range steps {
		b, _ = stepTold(b, list, s)
	}
	return b, true
}

func mustRun(t *testing.T, w [][]impl.Deed, steps []int64) impl.Board {
	t.Helper()
	want, can := ranTold(w, steps)
	got, ok := impl.Ran(w, steps)
	if ok != can || !sameBoard(got, want) {
		t.Fatalf("Ran(%v, %v) = %v, %v; want %v, %v", w, steps, got, ok, want, can)
	}
	return got
}

func TestRanByHand(t *testing.T) {
	const two, three = "write x 1; read y | write y 2; read x", "write x 1; wait; read y | swap y 2 | read x in 1; write z 3 in 1"
	for _, c := range []struct {
		work  string
		steps []int64
		want  string
	}{
		// No steps, and none that there are.
		{"-", nil, "000 012 0 . . 0/1/2 ."}, {two, nil, "000 012 00 -- -- 0/1/2 .|."}, {two, []int64{}, "000 012 00 -- -- 0/1/2 .|."}, {three, nil, "000 012 000 --- --- 0/1/2 .|.|."}, {"-", []int64{0, 10, 1, 11}, "000 012 0 . . 0/1/2 ."}, {two, far, "000 012 00 -- -- 0/1/2 .|."},
		// All are Possible.
		{two, []int64{0}, "000 012 10 -- -- 0/1/2 x13|."}, {two, []int64{0, 1, 0, 1}, "000 012 22 00 10 0/1/2 x13|y25"}, {two, []int64{0, 1, 0, 1, 10, 11}, "120 352 22 00 10 03/15/2 .|."}, {two, []int64{0, 10, 0, 1, 11, 1}, "120 352 22 01 13 03/15/2 .|."}, {two, []int64{1, 11, 0, 10, 0, 1}, "120 352 22 21 53 03/15/2 .|."}, {two, []int64{0, 0, 10, 1, 1, 11}, "120 352 22 01 13 03/15/2 .|."},
		{three, []int64{0, 10, 0, 1, 2, 0}, "123 368 312 201 613 03/16/28 .|.|."},
		// Some are passed over: too early, too late, twice, of nobody.
		{two, []int64{10, 11, 0}, "000 012 10 -- -- 0/1/2 x13|."}, {two, []int64{0, 10, 10, 10, 11}, "100 312 10 -- -- 03/1/2 .|."}, {two, []int64{2, 12, 3, 9, 13, -1, 20, 0}, "000 012 10 -- -- 0/1/2 x13|."}, {two, []int64{0, 0, 0, 0, 10, 10}, "100 312 20 0- 1- 03/1/2 .|."},
		{"write x 1; wait; read x", []int64{0, 0, 0, 10}, "100 312 1 - - 03/1/2 ."}, {"write x 1; wait; read x", []int64{0, 0, 10, 0, 0, 0}, "100 312 3 1 3 03/1/2 ."}, {"write x 1; swap x 2", []int64{0, 0, 10}, "100 312 1 - - 03/1/2 ."}, {"write x 1; read x in 1", []int64{0, 0, 10, 0}, "100 312 2 1 3 03/1/2 ."},
		{"write x 1 in 1; read x in 1; write y 2 in 1", []int64{10, 0}, "120 352 3 1 3 03/15/2 ."}, {"write x 1 in 1; read x in 1; write y 2 in 1", []int64{0, 0, 0, 10}, "120 352 3 1 3 03/15/2 ."},
		// One clerk's notes come in the order in which they were written.
		{"write x 1; write y 2; write x 3", []int64{0, 0, 0, 10, 10}, "120 342 3 . . 03/14/2 x35"}, {"write x 1; write y 2; write x 3", []int64{0, 0, 0, 10, 10, 10}, "320 542 3 . . 035/14/2 ."}, {"write x 1 | write x 2", []int64{0, 1, 11, 10}, "100 312 11 . . 043/1/2 .|."}, {"write x 1 | write x 2", []int64{0, 1, 10, 11}, "200 412 11 . . 034/1/2 .|."},
	} {
		w := clerksNamed(c.work)
		if got, ok := impl.Ran(w, c.steps); !ok || !sameWork(got.Work, w) || boardText(got) != c.want {
			t.Errorf("Ran of %q by %v is %s, %v; want %s", c.work, c.steps, boardText(got), ok, c.want)
		}
		mustRun(t, w, c.steps)
	}
}

// 40 steps are as many as there may be, whether one of them is Possible or not.
func TestHowManyStepsAreRan(t *testing.T) {
	for _, text := range append(rightWorks(), "write x 1; read x", "write x 1; wait; read y | write y 1; swap x 2") {
		w := clerksNamed(text)
		for n := range 60 {
			for _, filler := range []int64{0, 1, 10, 12, 5, -1, 99} {
				steps := make([]int64, n)
				for i := range steps {
					steps[i] = filler
				}
				got, ok := impl.Ran(w, steps)
				if ok != (n <= 40) || impl.BoardOk(got) != ok || !ok && !sameBoard(got, impl.Board{}) {
					t.Errorf("Ran(%v, %v) = %v, %v", w, steps, got, ok)
				}
				mustRun(t, w, steps)
			}
		}
		// The last one of 40 is done; with one more, nothing is.
		steps := append(make([]int64, 39), 10)
		mustRun(t, w, steps)
		mustRun(t, w, append(steps, 10))
	}
	late := append(slices.Repeat([]int64{13}, 39), 0)
	if b, ok := impl.Ran(clerksNamed("write x 7"), late); !ok || boardText(b) != "000 012 1 . . 0/1/2 x73" {
		t.Errorf("by %v comes %v, %v", late, b, ok)
	}
	if b, ok := impl.Ran(clerksNamed("write x 7"), append(late, 0)); ok || !sameBoard(b, impl.Board{}) {
		t.Errorf("by one more comes %v, %v", b, ok)
	}
}

// Steps as they come, Possible or not; each number from 0 to 14 comes up.
func TestRanByManySteps(t *testing.T) {
	ended, met := 0, map[int64]int{}
	next := int64(1)
	for i, w := range someWorks() {
		steps := []int64{}
		for range i % 43 {
			next = (next*1103515245 + 12345) % (1 << 31)
			s := next >> 16 % 15
			steps = append(steps, s)
			met[s]++
		}
		if impl.Ended(mustRun(t, w, steps)) && len(steps) > 0 {
			ended++
		}
	}
	if ended == 0 || len(met) != 15 {
		t.Errorf("%d ended, by %v", ended, met)
	}
}

func TestStepsOfWhatIsNoWork(t *testing.T) {
	for _, w := range wrongWorks() {
		for _, steps := range [][]int64{nil, {}, {0}, {0, 10, 1, 11, 2, 12}, make([]int64, 40), make([]int64, 41), far} {
			if got, ok := impl.Ran(w, steps); ok || !sameBoard(got, impl.Board{}) {
				t.Errorf("Ran(%v, %v) = %v, %v", w, steps, got, ok)
			}
			mustRun(t, w, steps)
		}
		for _, right := range rightBoards() {
			right.Work = w
			mustNotStep(t, right, "no work")
		}
		b := impl.Board{Work: w, Places: make([]int64, 3), Lasts: numbersNamed("012"), Notes: make([][]impl.Note, len(w)), Next: make([]int64, len(w)), Rows: [][]int64{{0}, {1}, {2}}}
		for range 8 {
			mustNotStep(t, b, "no work")
			b.Seen, b.From = append(b.Seen, -1), append(b.From, -1)
		}
	}
}

func TestStepsOfWhatIsNoBoard(t *testing.T) {
	mustNotStep(t, impl.Board{}, "the zero Board")
	mustNotStep(t, impl.Board{Work: [][]impl.Deed{{}}}, "a work alone")
	mustNotStep(t, impl.Board{Work: [][]impl.Deed{{}}, Notes: [][]impl.Note{notesNamed("x00")}, Next: []int64{0}}, "a clerk alone")
	mustNotStep(t, impl.Board{Places: []int64{0, 0, 0}, Lasts: []int64{0, 1, 2}, Rows: [][]int64{{0}, {1}, {2}}}, "all but a work")
	wrong := 0
	for _, b := range memoryBoards() {
		if !isBoard(b) {
			wrong++
			mustNotStep(t, b, "wrong in one field")
		}
	}
	// Each list shorter and longer than it should be.
	for _, right := range fullBoards() {
		for i := range 5 {
			for _, by := range []int{-1, 1} {
				b := copiedBoard(right)
				list := []*[]int64{&b.Places, &b.Lasts, &b.Next, &b.Seen, &b.From}[i]
				*list = sized(*list, len(*list)+by)
				mustNotStep(t, b, "a list that is too short or too long")
			}
		}
		for _, n := range []int{0, 2, 4} {
			b := copiedBoard(right)
			b.Rows = sized(b.Rows, n)
			mustNotStep(t, b, "Rows")
		}
		for _, n := range []int{len(right.Notes) - 1, len(right.Notes) + 1} {
			b := copiedBoard(right)
			b.Notes = sized(b.Notes, n)
			mustNotStep(t, b, "Notes")
		}
		b, c := copiedBoard(right), copiedBoard(right)
		b.Rows[0], c.Notes[0] = make([]int64, 21), make([]impl.Note, 9)
		mustNotStep(t, b, "21 of Rows")
		mustNotStep(t, c, "9 Notes")
	}
	if wrong == 0 {
		t.Error("no board is wrong")
	}
}

func TestStepsOfVeryLongLists(t *testing.T) {
	const long = 1 << 20
	zeros := make([]int64, long)
	for _, right := range fullBoards() {
		for i, change := range []func(b *impl.Board){
			func(b *impl.Board) { b.Work = make([][]impl.Deed, long) }, func(b *impl.Board) { b.Work[0] = make([]impl.Deed, long) }, func(b *impl.Board) { b.Places = zeros }, func(b *impl.Board) { b.Lasts = zeros }, func(b *impl.Board) { b.Next = zeros },
			func(b *impl.Board) { b.Seen = zeros }, func(b *impl.Board) { b.From = zeros }, func(b *impl.Board) { b.Rows = make([][]int64, long) }, func(b *impl.Board) { b.Rows[2] = zeros }, func(b *impl.Board) { b.Notes = make([][]impl.Note, long) }, func(b *impl.Board) { b.Notes[0] = make([]impl.Note, long) },
		} {
			b := copiedBoard(right)
			change(&b)
			for _, s := range []int64{0, 1, 2, 3, 10, 11, 12, long - 1, long} {
				got, ok := impl.Stepped(b, s)
				quick, is := impl.Quick(b, s)
				if ok || is || !sameBoard(got, impl.Board{}) || !sameBoard(quick, impl.Board{}) || len(impl.Possible(b)) != 0 {
					t.Errorf("%d: a step of a board with a very long list", i)
				}
			}
		}
	}
	mustRun(t, clerksNamed("write x 1; read x"), zeros)
	mustRun(t, make([][]impl.Deed, long), zeros[:1])
	mustRun(t, make([][]impl.Deed, long), zeros)
	mustRun(t, workOf(make([]impl.Deed, long)), nil)
}

// spoilBoard writes over all that a board has, and over the room behind it.
func spoilBoard(b impl.Board) {
	for _, list := range slices.Concat([][]int64{b.Places, b.Lasts, b.Next, b.Seen, b.From}, b.Rows[:cap(b.Rows)]) {
		spoil(list)
	}
	for _, notes := range b.Notes[:cap(b.Notes)] {
		notes = notes[:cap(notes)]
		for i := range notes {
			notes[i] = impl.Note{Place: -99, Value: -99, Event: -99}
		}
	}
	for _, list := range b.Work[:cap(b.Work)] {
		list = list[:cap(list)]
		for i := range list {
			list[i] = mark
		}
	}
	clear(b.Rows[:cap(b.Rows)])
	clear(b.Notes[:cap(b.Notes)])
	clear(b.Work[:cap(b.Work)])
}

// mustOwnItsMemory asks a board for something: what comes of it shares no memory with the board, nor with what comes of it again; and the board stays.
func mustOwnItsMemory(t *testing.T, b impl.Board, ask func(b impl.Board) impl.Board) {
	t.Helper()
	l := laidOut(b)
	before, work := l.text(), l.work.copied()
	one, other := ask(l.given), ask(l.given)
	want := copiedBoard(other)
	others := append(spansOfBoard(other), spansOfBoard(l.given)...)
	others = append(others, spanOf(l.work.floor), spanOf(l.work.clerks), spanOf(l.rows), spanOf(l.heaps))
	mustLieApart(t, spansOfBoard(one), others, b)
	spoilBoard(one)
	if l.text() != before || !l.work.isAs(work) {
		t.Errorf("of %v is left %v", b, l.given)
	}
	if !sameBoard(other, want) || !sameBoard(ask(l.given), want) {
		t.Errorf("two answers of %v share memory", b)
	}
	// What was handed in is changed, and the answer stays.
	spoilBoard(l.given)
	if !sameBoard(other, want) {
		t.Errorf("the answer of %v lies in the memory of the board", b)
	}
}

func TestStepsAreNewMemory(t *testing.T) {
	boards := append(memoryBoards(), strayBoards()...)
	for _, text := range []string{"write x 1; read x in 1; write x 2 in 1 | write x 3; read x", "write x 1; wait; read y | write y 2; swap x 3"} {
		boards = append(boards, boardsOf(clerksNamed(text))...)
	}
	for _, b := range boards {
		for _, s := range []int64{0, 1, 2, 10, 11, 12, -1, 3, 13} {
			mustOwnItsMemory(t, b, func(b impl.Board) impl.Board {
				got, _ := impl.Stepped(b, s)
				return got
			})
			mustOwnItsMemory(t, b, func(b impl.Board) impl.Board {
				got, _ := impl.Quick(b, s)
				return got
			})
		}
	}
}

func TestStepsLeaveTheirArgumentsAlone(t *testing.T) {
	for _, b := range append(memoryBoards(), strayBoards()...) {
		l := laidOut(b)
		before, work := l.text(), l.work.copied()
		mustStep(t, l.given)
		one, other := impl.Possible(l.given), impl.Possible(l.given)
		want := copied(other)
		mustLieApart(t, []span{spanOf(one), spanOf(other)}, spansOfBoard(l.given), b)
		spoil(one)
		if !sameList(other, want) || l.text() != before || !l.work.isAs(work) {
			t.Errorf("of %v is left %v", b, l.given)
		}
	}
}

func TestWhatIsRanIsNewMemory(t *testing.T) {
	for _, w := range append(memoryWorks(), wrongWorks()...) {
		for _, list := range [][]int64{nil, {0}, {0, 1, 2, 10, 11, 12}, {0, 0, 10, 10, 1, 1, 11, 2, 2, 12, 0, 1, 2}, make([]int64, 41)} {
			l := laid(w)
			steps, room := roomy(list)
			before, was := l.copied(), copied(room)
			one, _ := impl.Ran(l.given, steps)
			other, _ := impl.Ran(l.given, steps)
			want := copiedBoard(other)
			others := append(append(spansOfWork(l.given), spanOf(l.floor), spanOf(l.clerks), spanOf(room)), spansOfBoard(other)...)
			mustLieApart(t, spansOfBoard(one), others, w)
			spoilBoard(one)
			if !sameBoard(other, want) || !l.isAs(before) || !sameList(room, was) {
				t.Errorf("Ran(%v, %v) shares memory", w, list)
			}
			mustRun(t, l.given, steps)
		}
	}
	// One list for all clerks: each of them has its own on the board.
	for _, list := range [][]impl.Deed{{}, clerkOf("read x"), clerkOf("write x 1", "read y"), clerkOf("swap x 1")} {
		w := workOf(list, list, list)
		b := mustRun(t, w, []int64{0, 1, 11, 2, 0})
		mustLieApart(t, spansOfBoard(b), spansOfWork(w), w)
	}
}

// Lists of a board may lie in one memory, or be one: each of them is by itself in what comes of it.
func TestStepsOfBoardsInOneMemory(t *testing.T) {
	w := clerksNamed("read x; write x 1 | read y; wait | swap z 2")
	room := numbersNamed("012012012")
	before := copied(room)
	for i := range 4 {
		list, notes := room[i:i+3], notesNamed("x13 y24")
		for _, next := range []string{"000", "111", "001", "110", "220"} {
			b := impl.Board{Work: w, Places: list, Lasts: list, Notes: [][]impl.Note{notes, notes[:1], notes[:0]}, Next: numbersNamed(next), Seen: list, From: room[i:3][:3], Rows: [][]int64{list, list, room}}
			if len(mustStep(t, b)) == 0 {
				t.Errorf("at %v nobody can go on", b)
			}
			mustDoApart(t, b)
		}
		if fmt.Sprint(notes) != fmt.Sprint(notesNamed("x13 y24")) {
			t.Errorf("the notes are %v", notes)
		}
	}
	if !sameList(room, before) {
		t.Errorf("of %v is left %v", before, room)
	}
}

// mustDoApart wants each list of each answer to be its own.
func mustDoApart(t *testing.T, b impl.Board) {
	t.Helper()
	for s := range int64(14) {
		stepped, _ := impl.Stepped(b, s)
		quick, _ := impl.Quick(b, s)
		mustLieApart(t, append(spansOfBoard(stepped), spansOfBoard(quick)...), spansOfBoard(b), b)
	}
}
