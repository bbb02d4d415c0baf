package tests

import (
	"fmt"
	"slices"
	"strings"
	"testing"
	"unsafe"

	"loop.example/g00411/impl"
)

// slot is one number of a board, with the least and the greatest it may be.
type slot struct {
	what        string
	at          *int64
	least, most int64
}

func (s slot) isWrong() bool { return *s.at < s.least || *s.at > s.most }

// slotsOf are of a board that has as many of all as it should.
func slotsOf(b impl.Board) []slot {
	last := int64(len(eventsTold(b.Work))) - 1
	slots := []slot{}
	add := func(what string, list []int64, least int64, most int64) {
		for i := range list {
			slots = append(slots, slot{fmt.Sprintf("%s %d", what, i), &list[i], least, most})
		}
	}
	add("of Places", b.Places, 0, 9)
	add("of Lasts", b.Lasts, 0, last)
	add("of Seen", b.Seen, -1, 9)
	add("of From", b.From, -1, last)
	for place, row := range b.Rows {
		add(fmt.Sprintf("of Rows %d", place), row, 0, last)
	}
	for c, list := range b.Work {
		add(fmt.Sprintf("of Next from %d on", c), b.Next[c:c+1], 0, int64(len(list)))
		for i := range b.Notes[c] {
			note, what := &b.Notes[c][i], fmt.Sprintf("of note %d of clerk %d: ", i, c)
			slots = append(slots, slot{what + "Place", &note.Place, 0, 2}, slot{what + "Value", &note.Value, 0, 9}, slot{what + "Event", &note.Event, 0, last})
		}
	}
	return slots
}

// isBoard asks how many of each there are, and then each number by itself.
func isBoard(b impl.Board) bool {
	if !isWork(b.Work) {
		return false
	}
	clerks, reads := len(b.Work), len(readsTold(eventsTold(b.Work)))
	got := []int{len(b.Places), len(b.Lasts), len(b.Rows), len(b.Notes), len(b.Next), len(b.Seen), len(b.From)}
	if !slices.Equal(got, []int{3, 3, 3, clerks, clerks, reads, reads}) {
		return false
	}
	tooLong := slices.ContainsFunc(b.Rows, func(row []int64) bool { return len(row) > 20 }) || slices.ContainsFunc(b.Notes, func(notes []impl.Note) bool { return len(notes) > 8 })
	return !tooLong && !slices.ContainsFunc(slotsOf(b), slot.isWrong)
}

// newestTold looks back from the newest note on, and last of all at the board.
func newestTold(b impl.Board, clerk int64, place int64) (int64, int64) {
	for i := len(b.Notes[clerk]) - 1; i >= 0; i-- {
		if note := b.Notes[clerk][i]; note.Place == place {
			return note.Value, note.Event
		}
	}
	return b.Places[place], b.Lasts[place]
}

// leftTold is how much is left to do: Deeds, and notes.
func leftTold(b impl.Board) int64 {
	left := int64(0)
	for c := range b.Work {
		left += int64(len(b.Work[c])+len(b.Notes[c])) - b.Next[c]
	}
	return left
}

var someClerks = append([]int64{-3, -2, -1, 0, 1, 2, 3, 4, 10, 11, 1 << 32, 1 << 62}, far...)

// mustJudgeBoard holds all that chapter 14 tells of a board, or of what is none, against what the test tells; it answers whether it is right.
func mustJudgeBoard(t *testing.T, b impl.Board) bool {
	t.Helper()
	is := isBoard(b)
	if got := impl.BoardOk(b); got != is {
		t.Fatalf("BoardOk(%v) = %v", b, got)
	}
	for _, clerk := range someClerks {
		for _, place := range somePlaces {
			value, event := int64(-1), int64(-1)
			if is && clerk >= 0 && clerk < int64(len(b.Work)) && place >= 0 && place < 3 {
				value, event = newestTold(b, clerk, place)
			}
			if v, e := impl.Reading(b, clerk, place); v != value || e != event {
				t.Fatalf("Reading(%v, %d, %d) = %d, %d; want %d, %d", b, clerk, place, v, e, value, event)
			}
		}
	}
	if got := impl.Ended(b); got != (is && leftTold(b) == 0) {
		t.Fatalf("Ended(%v) = %v", b, got)
	}
	shown := []int64{}
	if is {
		shown = slices.Concat(b.Seen, b.Places)
	}
	if got := impl.ShownBoard(b); !sameList(got, shown) {
		t.Fatalf("ShownBoard(%v) = %v, want %v", b, got, shown)
	}
	return is
}

func mustBeBoard(t *testing.T, b impl.Board, what string) {
	t.Helper()
	if !mustJudgeBoard(t, b) || !impl.BoardOk(b) {
		t.Errorf("%s: %v should be a board", what, b)
	}
}

// mustBeNoBoard asks without the test's own reading, too.
func mustBeNoBoard(t *testing.T, b impl.Board, what string) {
	t.Helper()
	value, event := impl.Reading(b, 0, 0)
	if mustJudgeBoard(t, b) || impl.BoardOk(b) || value != -1 || event != -1 || impl.Ended(b) || len(impl.ShownBoard(b)) != 0 {
		t.Errorf("%s: %v should be no board", what, b)
	}
}

func copiedLists(lists [][]int64) [][]int64 {
	made := [][]int64{}
	for _, list := range lists {
		made = append(made, copied(list))
	}
	return made
}

func copiedBoard(b impl.Board) impl.Board {
	notes := [][]impl.Note{}
	for _, list := range b.Notes {
		notes = append(notes, slices.Clone(list))
	}
	return impl.Board{Work: copiedWork(b.Work), Places: copied(b.Places), Lasts: copied(b.Lasts), Notes: notes, Next: copied(b.Next), Seen: copied(b.Seen), From: copied(b.From), Rows: copiedLists(b.Rows)}
}

// sameBoard takes an empty list and nil for the same.
func sameBoard(a impl.Board, b impl.Board) bool {
	lists := func(b impl.Board) [][]int64 {
		return append([][]int64{b.Places, b.Lasts, b.Next, b.Seen, b.From}, b.Rows...)
	}
	return sameWork(a.Work, b.Work) && slices.EqualFunc(lists(a), lists(b), sameList) && slices.EqualFunc(a.Notes, b.Notes, slices.Equal)
}

// digitsNamed has -1 for each -.
func digitsNamed(word string) []int64 {
	list := []int64{}
	for _, digit := range word {
		list = append(list, max(int64(digit-'0'), -1))
	}
	return list
}

// notesNamed has for each word a note: its place's letter, its Value and its Event.
func notesNamed(words string) []impl.Note {
	notes := []impl.Note{}
	for word := range strings.FieldsSeq(words) {
		notes = append(notes, impl.Note{Place: int64(word[0] - 'x'), Value: int64(word[1] - '0'), Event: int64(word[2] - '0')})
	}
	return notes
}

// boardTold is the new board of a work as the test tells it, field by field.
func boardTold(w [][]impl.Deed) impl.Board {
	if !isWork(w) {
		return impl.Board{}
	}
	reads := len(readsTold(eventsTold(w)))
	unseen := digitsNamed(strings.Repeat("-", reads))
	return impl.Board{Work: copiedWork(w), Places: numbersNamed("000"), Lasts: numbersNamed("012"), Notes: make([][]impl.Note, len(w)), Next: make([]int64, len(w)), Seen: unseen, From: copied(unseen), Rows: [][]int64{{0}, {1}, {2}}}
}

// withNotes is the new board of a work, but with these notes: of each clerk, with | between.
func withNotes(text string, notes string) impl.Board {
	b := boardTold(clerksNamed(text))
	for c, words := range strings.Split(notes, "|") {
		b.Notes[c] = notesNamed(words)
	}
	return b
}

// mustBeNew holds NewBoard of a work, or of what is none, against what the test tells; it answers whether there is one.
func mustBeNew(t *testing.T, w [][]impl.Deed) bool {
	t.Helper()
	got, ok := impl.NewBoard(w)
	if is := isWork(w); ok != is || !sameBoard(got, boardTold(w)) {
		t.Fatalf("NewBoard(%v) = %v, %v", w, got, ok)
	}
	if mustJudgeBoard(t, got) != ok {
		t.Fatalf("BoardOk(NewBoard(%v)) = %v", w, !ok)
	}
	// Nothing is done: it is ended just where there is nothing to do.
	if ok && impl.Ended(got) != !slices.ContainsFunc(w, func(list []impl.Deed) bool { return len(list) > 0 }) {
		t.Fatalf("Ended(NewBoard(%v)) = %v", w, impl.Ended(got))
	}
	return ok
}

// brought puts a note on the board.
func brought(b impl.Board, note impl.Note) {
	b.Places[note.Place], b.Lasts[note.Place] = note.Value, note.Event
	b.Rows[note.Place] = append(b.Rows[note.Place], note.Event)
}

// doneBy lets a clerk do its next Deed, with all that is left of its Group; what is plain goes through its notes, all else has none beside it.
func doneBy(b impl.Board, list []impl.Event, clerk int64, plain bool) impl.Board {
	deeds, reads := b.Work[clerk], readsTold(list)
	for group := deeds[b.Next[clerk]].Group; ; {
		for n, e := range list {
			note := impl.Note{Place: e.Place, Value: e.Value, Event: int64(n)}
			at := slices.Index(reads, note.Event)
			switch {
			case e.Clerk != clerk || e.Deed != b.Next[clerk]:
			case e.Reads:
				b.Seen[at], b.From[at] = newestTold(b, clerk, e.Place)
			case plain:
				b.Notes[clerk] = append(b.Notes[clerk], note)
			default:
				brought(b, note)
			}
		}
		b.Next[clerk]++
		if next := b.Next[clerk]; group == 0 || next == int64(len(deeds)) || deeds[next].Group != group {
			return b
		}
	}
}

// stepTold is what a step makes of a right board, and whether it can be done there: c lets clerk c do its next Deed, 10 and c brings its oldest note.
func stepTold(b impl.Board, list []impl.Event, s int64) (impl.Board, bool) {
	then, c := copiedBoard(b), s%10
	if s < 0 || s >= 20 || c >= int64(len(b.Work)) {
		return then, false
	}
	notes, left := b.Notes[c], b.Work[c][b.Next[c]:]
	if s >= 10 && len(notes) > 0 {
		then.Notes[c] = then.Notes[c][1:]
		brought(then, notes[0])
		return then, true
	}
	if s >= 10 || len(left) == 0 {
		return then, false
	}
	plain := left[0].Group == 0 && (left[0].Kind == 1 || left[0].Kind == 2)
	if !plain && len(notes) > 0 {
		return then, false
	}
	return doneBy(then, list, c, plain), true
}

// boardsOf are all boards that come of a work, whoever goes on; the new one is the program's.
func boardsOf(w [][]impl.Deed) []impl.Board {
	list, met := eventsTold(w), map[string]bool{}
	first, _ := impl.NewBoard(w)
	boards := []impl.Board{first}
	for i := 0; i < len(boards); i++ {
		for s := range int64(20) {
			then, can := stepTold(boards[i], list, s)
			if key := fmt.Sprint(then); can && !met[key] {
				met[key] = true
				boards = append(boards, then)
			}
		}
	}
	return boards
}

// sights counts by what there is when a clerk looks at a place: how many notes of its own on it (none, one, several), whether it has others, and whether other clerks have some there.
type sights map[[3]int]int

func (s sights) count(b impl.Board, clerk int, place int64) {
	var own, elsewhere, others int
	for c, notes := range b.Notes {
		for _, note := range notes {
			switch {
			case c == clerk && note.Place == place:
				own = min(own+1, 2)
			case c == clerk:
				elsewhere = 1
			case note.Place == place:
				others = 1
			}
		}
	}
	s[[3]int{own, elsewhere, others}]++
}

// mustHaveMetSights wants each of them: the promise would say nothing of boards that have none.
func mustHaveMetSights(t *testing.T, s sights) {
	t.Helper()
	for i := range 12 {
		if key := [3]int{i / 4, i / 2 % 2, i % 2}; s[key] == 0 {
			t.Errorf("nobody looked with %v: %v", key, s)
		}
	}
}

func mustSee(t *testing.T, b impl.Board, clerk int, place int64, value int64, event int64) {
	t.Helper()
	if v, e := impl.Reading(b, int64(clerk), place); v != value || e != event {
		t.Fatalf("Reading(%v, %d, %d) = %d, %d; want %d, %d", b, clerk, place, v, e, value, event)
	}
}

// mustSeeNotesFirst is promise 14, by the program's own answers: what changes a reading, and what does not.
func mustSeeNotesFirst(t *testing.T, b impl.Board, met sights) {
	t.Helper()
	for c := range b.Work {
		for place := range int64(3) {
			met.count(b, c, place)
			value, event := impl.Reading(b, int64(c), place)
			alone, without, elsewhere := copiedBoard(b), copiedBoard(b), copiedBoard(b)
			for other := range b.Work {
				if other != c {
					alone.Notes[other] = nil
				}
			}
			without.Notes[c] = slices.DeleteFunc(without.Notes[c], func(n impl.Note) bool { return n.Place == place })
			elsewhere.Notes[c] = append(elsewhere.Notes[c], impl.Note{Place: (place + 1) % 3, Value: 9 - value, Event: 0})
			// Others' notes and notes on other places change nothing; without notes there it is the board.
			mustSee(t, alone, c, place, value, event)
			mustSee(t, elsewhere, c, place, value, event)
			mustSee(t, without, c, place, b.Places[place], b.Lasts[place])
			// A newer note is seen by this clerk, and by nobody else.
			for _, newer := range []impl.Note{{Place: place, Value: 9 - value, Event: 0}, {Place: place, Value: value, Event: 2 - min(event, 2)}} {
				more := copiedBoard(b)
				more.Notes[c] = append(more.Notes[c], newer)
				mustSee(t, more, c, place, newer.Value, newer.Event)
				for other := range b.Work {
					v, e := impl.Reading(b, int64(other), place)
					if other != c {
						mustSee(t, more, other, place, v, e)
					}
				}
			}
		}
	}
}

// walkedWorks are of all Kinds of Deeds, with few enough boards that all of them can be gone through.
func walkedWorks() []string {
	return []string{
		"-", "read x", "write x 1; read x", "write x 1; write x 2; read x; write y 3; read y", "swap x 1; read x; write x 2; read x", "write x 1; wait; read x", "write x 1 in 1; read x in 1; write x 2; read x in 2",
		"write x 1; read y | write y 1; read x", "write x 1; write x 2; read x | read x; write x 3", "write x 1; wait; read y | write y 2; swap x 3", "write x 1; write y 2; write x 3 | write x 4; read x; read y", "write x 1; read x in 1; write x 2 in 1 | write x 3; read x",
		"write x 1; read x | write x 2; read x | write x 3", "write x 1 | - | read x; write y 2; read y", "write x 1; write y 2 | write y 3; write x 4 | read x; read y", "write x 1; write x 2 | write x 3; write z 4 | swap x 5", "write x 1 in 1; write y 1 in 1 | wait; read x; read y | write y 2",
	}
}

// Promise 14: whatever the clerks have done so far.
func TestAClerkSeesItsOwnNotesFirst(t *testing.T) {
	met, ended := sights{}, 0
	for _, text := range walkedWorks() {
		w := clerksNamed(text)
		for _, b := range boardsOf(w) {
			mustBeBoard(t, b, text)
			mustSeeNotesFirst(t, b, met)
			if !impl.Ended(b) {
				continue
			}
			ended++
			// All is done: what came of it is a tale that may be told, with what is shown.
			tale := impl.Tale{From: b.From, Rows: slices.Concat(b.Rows...)}
			if !impl.SlowOk(w, tale) || !sameList(impl.OutcomeOf(w, tale), impl.ShownBoard(b)) {
				t.Errorf("of %q comes %v", text, b)
			}
		}
	}
	mustHaveMetSights(t, met)
	if ended == 0 {
		t.Error("nobody came to the end")
	}
}

// Promise 14: all lists of at most three notes of one clerk, beside some of the other one's.
func TestAllShortListsOfNotes(t *testing.T) {
	met := sights{}
	some := notesNamed("x13 x24 y13 y05 z90")
	lists, longest := [][]impl.Note{nil}, [][]impl.Note{nil}
	for range 3 {
		longer := [][]impl.Note{}
		for _, list := range longest {
			for _, note := range some {
				longer = append(longer, append(slices.Clone(list), note))
			}
		}
		lists, longest = append(lists, longer...), longer
	}
	for _, one := range lists {
		for _, two := range [][]impl.Note{nil, some, notesNamed("x53"), notesNamed("y64 z75")} {
			b := boardTold(clerksNamed("write x 1; read y | write y 1"))
			b.Places, b.Lasts, b.Notes = numbersNamed("789"), numbersNamed("351"), [][]impl.Note{one, two}
			mustBeBoard(t, b, "notes")
			mustSeeNotesFirst(t, b, met)
		}
	}
	mustHaveMetSights(t, met)
}

// Of each clerk the Value and the event that it sees at x, at y and at z.
func TestReadingByHand(t *testing.T) {
	const two, three = "write x 1; read y | write y 1; read x", "write x 1; write x 2 | write y 3; read x | read y; read z"
	for _, c := range []struct{ text, notes, places, lasts, want string }{
		{"-", "", "000", "012", "00 01 02"}, {"read x", "", "700", "123", "71 02 03"},
		// No note: the board's Values and its events.
		{two, "|", "000", "012", "00 01 02|00 01 02"}, {two, "|", "190", "352", "13 95 02|13 95 02"}, {two, "|", "012", "555", "05 15 25|05 15 25"},
		// One note, and it is nobody else's.
		{two, "x13|", "000", "012", "13 01 02|00 01 02"}, {two, "|x13", "000", "012", "00 01 02|13 01 02"}, {two, "y15|", "000", "012", "00 15 02|00 01 02"}, {two, "|z96", "000", "012", "00 01 02|00 01 96"},
		{two, "x13|y15", "000", "012", "13 01 02|00 15 02"}, {two, "x13|x25", "000", "012", "13 01 02|25 01 02"}, {two, "x13|x13", "450", "632", "13 53 02|13 53 02"},
		// A note of 0, and a note of event 0.
		{two, "x03|", "900", "612", "03 01 02|96 01 02"}, {two, "x40|y00", "555", "666", "40 56 56|56 00 56"},
		// Several on one place: the newest, be its Value or its event greater or less.
		{two, "x13 x24|", "000", "012", "24 01 02|00 01 02"}, {two, "x24 x13|", "000", "012", "13 01 02|00 01 02"}, {two, "x14 x23|", "000", "012", "23 01 02|00 01 02"}, {two, "x13 x24 x35|x35 x24 x13", "000", "012", "35 01 02|13 01 02"}, {two, "z13 z13 z14|", "000", "012", "00 01 14|00 01 02"}, {two, "x93 x03|", "000", "012", "03 01 02|00 01 02"},
		// Notes on other places behind and between.
		{two, "x13 y24|", "000", "012", "13 24 02|00 01 02"}, {two, "y24 x13|", "000", "012", "13 24 02|00 01 02"}, {two, "x13 y24 x35 z46|", "000", "012", "35 24 46|00 01 02"}, {two, "y13 y24 z35|x46", "777", "000", "70 24 35|46 70 70"}, {two, "z13 x24 x35 y46 x50 z61|", "000", "012", "50 46 61|00 01 02"},
		// Three clerks, the last of them with notes; eight notes.
		{three, "||", "456", "354", "43 55 64|43 55 64|43 55 64"}, {three, "||x13", "456", "354", "43 55 64|43 55 64|13 55 64"}, {three, "x13 x24|y35|z98 y77", "000", "012", "24 01 02|00 35 02|00 77 98"}, {three, "|x13 x14 x15 x16 x17 x18 x23 y34|", "000", "012", "00 01 02|23 34 02|00 01 02"}, {three, "y11 x13 x14 x15 x16 x17 x18 x23||", "000", "012", "23 11 02|00 01 02|00 01 02"},
	} {
		b := withNotes(c.text, c.notes)
		b.Places, b.Lasts = numbersNamed(c.places), numbersNamed(c.lasts)
		mustBeBoard(t, b, c.text)
		for clerk, seen := range strings.Split(c.want, "|") {
			for place, word := range strings.Fields(seen) {
				want := numbersNamed(word)
				mustSee(t, b, clerk, int64(place), want[0], want[1])
			}
		}
	}
}

// What each read saw, and whether a Deed is done, does not change a reading; nor do the Rows.
func TestReadingAsksForNotesAndBoardAlone(t *testing.T) {
	b := withNotes("write x 1; read x | swap y 2; read x", "x13|")
	for _, c := range []struct{ seen, from, next string }{{"---", "---", "00"}, {"999", "000", "22"}, {"-05", "7-2", "12"}} {
		b.Seen, b.From, b.Next = digitsNamed(c.seen), digitsNamed(c.from), numbersNamed(c.next)
		b.Rows = [][]int64{numbersNamed("777"), nil, numbersNamed("0123456")}
		mustBeBoard(t, b, c.seen)
		mustSee(t, b, 0, 0, 1, 3)
		mustSee(t, b, 0, 1, 0, 1)
		mustSee(t, b, 1, 0, 0, 0)
		mustSee(t, b, 1, 2, 0, 2)
	}
}

func TestReadingOfNoClerkAndNoPlace(t *testing.T) {
	for clerks, text := range []string{"write x 1", "write x 1 | -", "write x 1 | - | read y"} {
		b := boardTold(clerksNamed(text))
		for c := range b.Notes {
			b.Notes[c] = notesNamed("x13 y23 z33")
		}
		for _, off := range append([]int64{-1, -2, -3, -10, 3, 4, 10, 11, 12, 100, 256, 1 << 32, 1<<32 + 1, 1 << 62, -1 << 32}, far...) {
			for there := range int64(clerks) + 1 {
				mustSee(t, b, int(there), off, -1, -1)
			}
			for place := range int64(3) {
				mustSee(t, b, int(off), place, -1, -1)
			}
			mustSee(t, b, int(off), off, -1, -1)
		}
		for place := range int64(3) {
			mustSee(t, b, clerks, place, place+1, 3)
			mustSee(t, b, clerks+1, place, -1, -1)
		}
	}
}

// fullBoards are right, with notes, reads that saw something, and Rows.
func fullBoards() []impl.Board {
	one := withNotes("write x 1; read x", "x13")
	two := withNotes("write x 1; read y; read x | write y 1; wait; swap x 2", "x13 y24 z35|z98 x00")
	two.Places, two.Lasts, two.Next = numbersNamed("190"), numbersNamed("362"), numbersNamed("31")
	two.Seen, two.From, two.Rows = digitsNamed("09-"), digitsNamed("18-"), [][]int64{{0, 3}, {1, 6, 6}, {}}
	three := withNotes("swap x 1 | - | write z 3; read z in 1; read y in 1", "z77||x13 x13 x13 x13 x13 x13 x13 x13")
	three.Places, three.Lasts, three.Next = numbersNamed("999"), numbersNamed("777"), numbersNamed("103")
	three.Seen, three.From = digitsNamed("990"), digitsNamed("770")
	three.Rows = [][]int64{nil, numbersNamed("01234567012345670123"), {2}}
	return []impl.Board{one, two, three}
}

// rightBoards are new ones and full ones.
func rightBoards() []impl.Board {
	boards := fullBoards()
	for _, text := range append(rightWorks(), "write x 1; read x | write y 2; read y | read z", "read x; read x; read x; read x; read x | read x") {
		boards = append(boards, boardTold(clerksNamed(text)))
	}
	return boards
}

// Each number of a board at both ends of its bound and past them, everything else being right.
func TestEachNumberOfABoard(t *testing.T) {
	met := map[string]int{}
	for _, right := range rightBoards() {
		mustBeBoard(t, right, "as it is")
		for i := range slotsOf(right) {
			b := copiedBoard(right)
			s := slotsOf(b)[i]
			met[strings.Fields(s.what)[1]]++
			was := *s.at
			for _, n := range []int64{s.least, s.least + (s.most-s.least)/2, s.most} {
				*s.at = n
				mustBeBoard(t, b, s.what)
			}
			for _, n := range append([]int64{s.least - 1, s.most + 1, s.least - 2, s.most + 2, 1 << 32, 1<<32 + s.least, 1 << 62, -1 << 32}, far...) {
				*s.at = n
				mustBeNoBoard(t, b, s.what)
			}
			*s.at = was
			mustBeBoard(t, b, s.what)
		}
	}
	for _, what := range []string{"Places", "Lasts", "Seen", "From", "Rows", "Next", "note"} {
		if met[what] == 0 {
			t.Errorf("no number of %s was asked for: %v", what, met)
		}
	}
}

// sized is a list cut, or with noughts behind it, which are right in each of them.
func sized[T any](list []T, n int) []T {
	return append(slices.Clone(list), make([]T, n)...)[:n]
}

// Each list of a board shorter and longer than it should be, everything else being right.
func TestHowManyOfEachABoardHas(t *testing.T) {
	for _, right := range rightBoards() {
		for i, what := range []string{"Places", "Lasts", "Next", "Seen", "From"} {
			for n := range 14 {
				b := copiedBoard(right)
				list := []*[]int64{&b.Places, &b.Lasts, &b.Next, &b.Seen, &b.From}[i]
				is := n == len(*list)
				if *list = sized(*list, n); is {
					mustBeBoard(t, b, what)
				} else {
					mustBeNoBoard(t, b, what)
				}
			}
		}
		for n := range 14 {
			rows, notes := copiedBoard(right), copiedBoard(right)
			rows.Rows, notes.Notes = sized(rows.Rows, n), sized(notes.Notes, n)
			if mustJudgeBoard(t, rows) != (n == 3) || mustJudgeBoard(t, notes) != (n == len(right.Work)) {
				t.Errorf("%d Rows or Notes: %v", n, right)
			}
		}
	}
}

// At most 20 in each of Rows, at most 8 Notes each.
func TestHowLongRowsAndNotesMayBe(t *testing.T) {
	for _, right := range rightBoards() {
		for n := range 30 {
			for place := range right.Rows {
				b := copiedBoard(right)
				b.Rows[place] = sized(b.Rows[place], n)
				if mustJudgeBoard(t, b) != (n <= 20) || impl.BoardOk(b) != (n <= 20) {
					t.Errorf("%d of Rows %d: %v", n, place, b)
				}
			}
			for c := range right.Notes {
				b := copiedBoard(right)
				b.Notes[c] = sized(b.Notes[c], n)
				if mustJudgeBoard(t, b) != (n <= 8) || impl.BoardOk(b) != (n <= 8) {
					t.Errorf("%d Notes of %d: %v", n, c, b)
				}
			}
		}
		// All of them at once.
		b := copiedBoard(right)
		for place := range b.Rows {
			b.Rows[place] = sized(b.Rows[place], 20)
		}
		for c := range b.Notes {
			b.Notes[c] = sized(b.Notes[c], 8)
		}
		mustBeBoard(t, b, "all are full")
	}
}

// One board, with events 0 to 6: what is asked of it is written out here.
func TestBoardOkByHand(t *testing.T) {
	for _, c := range []struct {
		what   string
		change func(b *impl.Board)
		is     bool
	}{
		{"as it is", func(b *impl.Board) {}, true},
		{"a work with a wait more", func(b *impl.Board) { b.Work[1] = append(b.Work[1], impl.Deed{Kind: impl.DdWait}) }, true},
		{"a work with a read more", func(b *impl.Board) { b.Work[1] = append(b.Work[1], impl.Deed{Kind: impl.DdRead}) }, false},
		{"a read more, and what it saw", func(b *impl.Board) {
			b.Work[1] = append(b.Work[1], impl.Deed{Kind: impl.DdRead})
			b.Seen, b.From = append(b.Seen, -1), append(b.From, 7)
		}, true},
		{"a write in place of a read", func(b *impl.Board) { b.Work[0][1] = impl.Deed{Kind: impl.DdWrite, Place: 1, Value: 1} }, false},
		{"a write for a read, with what is left", func(b *impl.Board) {
			b.Work[0][1] = impl.Deed{Kind: impl.DdWrite, Place: 1, Value: 1}
			b.Seen, b.From = b.Seen[:1], b.From[:1]
		}, true},
		{"a clerk more", func(b *impl.Board) { b.Work = append(b.Work, nil) }, false},
		{"a clerk more, with its own", func(b *impl.Board) {
			b.Work, b.Notes, b.Next = append(b.Work, nil), append(b.Notes, nil), append(b.Next, 0)
		}, true},
		{"a clerk more, who has done what it has not", func(b *impl.Board) {
			b.Work, b.Notes, b.Next = append(b.Work, nil), append(b.Notes, nil), append(b.Next, 1)
		}, false},
		{"two clerks more", func(b *impl.Board) {
			b.Work, b.Notes, b.Next = append(b.Work, nil, nil), append(b.Notes, nil, nil), append(b.Next, 0, 0)
		}, false},
		{"a clerk less", func(b *impl.Board) { b.Work = b.Work[:1] }, false},
		{"no work", func(b *impl.Board) { b.Work = nil }, false},
		{"a Deed that is none", func(b *impl.Board) { b.Work[0][0].Value = 0 }, false},
		{"a Deed that is another one", func(b *impl.Board) { b.Work[0][0].Value = 9 }, true},
		{"Places that nobody wrote", func(b *impl.Board) { b.Places = []int64{9, 8, 7} }, true},
		{"a Place of 10", func(b *impl.Board) { b.Places[2] = 10 }, false},
		{"a Place of -1", func(b *impl.Board) { b.Places[0] = -1 }, false},
		{"Lasts that wrote elsewhere, and a read", func(b *impl.Board) { b.Lasts = []int64{1, 4, 6} }, true},
		{"Lasts 7", func(b *impl.Board) { b.Lasts[1] = 7 }, false},
		{"Lasts -1", func(b *impl.Board) { b.Lasts[0] = -1 }, false},
		{"Rows in no order, with reads, twice", func(b *impl.Board) { b.Rows = [][]int64{{6, 0, 0}, {4}, {3, 3}} }, true},
		{"empty Rows", func(b *impl.Board) { b.Rows = [][]int64{{}, nil, {}} }, true},
		{"Rows with 7", func(b *impl.Board) { b.Rows[2] = []int64{2, 7} }, false},
		{"Rows with -1", func(b *impl.Board) { b.Rows[0] = []int64{-1} }, false},
		{"a wrong one at the end of 20", func(b *impl.Board) { b.Rows[1] = append(make([]int64, 19), 7) }, false},
		{"20 of Rows", func(b *impl.Board) { b.Rows[1] = append(make([]int64, 19), 6) }, true},
		{"21 of Rows", func(b *impl.Board) { b.Rows[1] = make([]int64, 21) }, false},
		{"no Notes of any clerk", func(b *impl.Board) { b.Notes = [][]impl.Note{nil, {}} }, true},
		{"a note of nobody's, a read's, one of another clerk's", func(b *impl.Board) { b.Notes[0] = notesNamed("x00 y14 z26") }, true},
		{"8 Notes", func(b *impl.Board) { b.Notes[1] = notesNamed("x13 x13 x13 x13 x13 x13 x13 z96") }, true},
		{"9 Notes", func(b *impl.Board) { b.Notes[1] = notesNamed("x13 x13 x13 x13 x13 x13 x13 z96 x13") }, false},
		{"a Note at no place", func(b *impl.Board) { b.Notes[1] = []impl.Note{{Place: 3}} }, false},
		{"a Note below all places", func(b *impl.Board) { b.Notes[0][0].Place = -1 }, false},
		{"a Note of 10", func(b *impl.Board) { b.Notes[0][0].Value = 10 }, false},
		{"a Note of -1", func(b *impl.Board) { b.Notes[0][0].Value = -1 }, false},
		{"a Note of event 7", func(b *impl.Board) { b.Notes[0][0].Event = 7 }, false},
		{"a Note of event -1", func(b *impl.Board) { b.Notes[0][0].Event = -1 }, false},
		{"a wrong one at the end of 8", func(b *impl.Board) { b.Notes[1] = notesNamed("x13 x13 x13 x13 x13 x13 x13 x17") }, false},
		{"all done", func(b *impl.Board) { b.Next = []int64{2, 3} }, true},
		{"more done than there is", func(b *impl.Board) { b.Next = []int64{3, 0} }, false},
		{"more done than there is, by the last one", func(b *impl.Board) { b.Next = []int64{2, 4} }, false},
		{"less done than nothing", func(b *impl.Board) { b.Next = []int64{0, -1} }, false},
		{"read, but from nothing", func(b *impl.Board) { b.Seen, b.From = []int64{9, 0}, []int64{-1, -1} }, true},
		{"not read, but from something", func(b *impl.Board) { b.Seen, b.From = []int64{-1, -1}, []int64{6, 0} }, true},
		{"Seen 10", func(b *impl.Board) { b.Seen[1] = 10 }, false},
		{"Seen -2", func(b *impl.Board) { b.Seen[0] = -2 }, false},
		{"From 7", func(b *impl.Board) { b.From[1] = 7 }, false},
		{"From -2", func(b *impl.Board) { b.From[0] = -2 }, false},
		{"a Seen less", func(b *impl.Board) { b.Seen = b.Seen[:1] }, false},
		{"a From more", func(b *impl.Board) { b.From = append(b.From, -1) }, false},
	} {
		b := withNotes("write x 1; read y | write y 1; wait; read x", "x13|")
		b.Next[0] = 1
		if c.change(&b); impl.BoardOk(b) != c.is {
			t.Errorf("%s: BoardOk is %v", c.what, !c.is)
		}
		mustJudgeBoard(t, b)
	}
}

func TestNewBoardByHand(t *testing.T) {
	for _, c := range []struct {
		text  string
		reads int
	}{
		{"-", 0}, {"wait", 0}, {"write x 1", 0}, {"read z", 1}, {"write x 1; read x", 1}, {"swap y 2", 1}, {"read x in 1; write x 1 in 1", 1}, {"swap x 1; swap y 2; swap z 3", 3}, {"read x; read y; read z; read x; read y", 5},
		{"- | -", 0}, {"write x 1 | write y 2; wait", 0}, {"write x 1; read y | write y 1; read x", 2}, {"read x; read x; read x; read x; read x | read x", 6},
		{"- | - | -", 0}, {"write x 1 | - | write z 9", 0}, {"read x | swap y 1 | write z 3; read z", 3}, {"swap x 1 | swap x 2 | swap x 3", 3},
	} {
		w := clerksNamed(c.text)
		b, ok := impl.NewBoard(w)
		unseen := make([]int64, c.reads)
		for i := range unseen {
			unseen[i] = -1
		}
		if !ok || !sameWork(b.Work, w) || !sameList(b.Places, []int64{0, 0, 0}) || !sameList(b.Lasts, []int64{0, 1, 2}) {
			t.Errorf("of %q: %v, Work %v, Places %v, Lasts %v", c.text, ok, b.Work, b.Places, b.Lasts)
		}
		if len(b.Notes) != len(w) || len(slices.Concat(b.Notes...)) != 0 || !sameList(b.Next, make([]int64, len(w))) {
			t.Errorf("of %q: Notes %v, Next %v", c.text, b.Notes, b.Next)
		}
		if !sameList(b.Seen, unseen) || !sameList(b.From, unseen) || fmt.Sprint(b.Rows) != "[[0] [1] [2]]" {
			t.Errorf("of %q: Seen %v, From %v, Rows %v", c.text, b.Seen, b.From, b.Rows)
		}
		mustBeNew(t, w)
	}
}

// Works of one, two and three clerks, some of them not right.
func TestNewBoardsOfManyWorks(t *testing.T) {
	right, wrong := 0, 0
	count := func(w [][]impl.Deed) {
		if mustBeNew(t, w) {
			right++
		} else {
			wrong++
		}
	}
	for _, one := range clerksOf(clerkOf("read x", "write y 3", "swap z 9", "wait", "read x in 1", "write y 2 in 1"), 3) {
		count(workOf(one))
	}
	for _, one := range mixedClerks() {
		for i, two := range mixedClerks() {
			count(workOf(one, two))
			count(workOf(two, mixedClerks()[(i*7)%len(mixedClerks())], one))
		}
	}
	for d := range shownDeeds {
		count(workOf([]impl.Deed{d}))
		count(workOf(nil, []impl.Deed{d, {}}))
	}
	for _, list := range evenClerks(6) {
		count(workOf(list))
		count(workOf(clerkOf("swap x 1", "wait"), list, clerkOf("read z")))
	}
	if right == 0 || wrong == 0 {
		t.Errorf("%d works, %d that are none", right, wrong)
	}
}

// A work that is not right has no board, whatever else stands there; each way in which chapter 5 refuses one.
func TestBoardsOfWhatIsNoWork(t *testing.T) {
	for _, w := range wrongWorks() {
		got, ok := impl.NewBoard(w)
		if ok || !sameBoard(got, impl.Board{}) {
			t.Errorf("NewBoard(%v) = %v, %v", w, got, ok)
		}
		mustBeNew(t, w)
		reads := 0
		for _, list := range w {
			for _, d := range list {
				if d.Kind == impl.DdRead || d.Kind == impl.DdSwap {
					reads++
				}
			}
		}
		for n := range reads + 2 {
			b := impl.Board{Work: w, Places: make([]int64, 3), Lasts: numbersNamed("012"), Notes: make([][]impl.Note, len(w)), Next: make([]int64, len(w)), Seen: make([]int64, n), From: make([]int64, n), Rows: [][]int64{{0}, {1}, {2}}}
			mustBeNoBoard(t, b, "no work")
			for c, list := range w {
				b.Next[c] = int64(len(list))
			}
			mustBeNoBoard(t, b, "no work, all done")
		}
		for _, right := range rightBoards() {
			right.Work = w
			mustBeNoBoard(t, right, "another board")
		}
	}
}

func TestTheZeroBoard(t *testing.T) {
	mustBeNoBoard(t, impl.Board{}, "the zero Board")
	mustBeNoBoard(t, impl.Board{Work: [][]impl.Deed{}, Places: []int64{}, Lasts: []int64{}, Notes: [][]impl.Note{}, Next: []int64{}, Seen: []int64{}, From: []int64{}, Rows: [][]int64{}}, "empty lists")
	mustBeNoBoard(t, impl.Board{Work: [][]impl.Deed{{}}}, "a work alone")
	mustBeNoBoard(t, impl.Board{Places: []int64{0, 0, 0}, Lasts: []int64{0, 1, 2}, Rows: [][]int64{{0}, {1}, {2}}}, "all but a work")
	mustSee(t, impl.Board{}, 0, 0, -1, -1)
	mustSee(t, impl.Board{}, -1, -1, -1, -1)
}

// Nil in each field, and an empty list: that is right just where there is nothing to stand there.
func TestNilInEachField(t *testing.T) {
	for _, right := range rightBoards() {
		reads := len(right.Seen)
		for i, c := range []struct {
			change func(b *impl.Board)
			is     bool
		}{
			{func(b *impl.Board) { b.Work = nil }, false}, {func(b *impl.Board) { b.Work = [][]impl.Deed{} }, false},
			{func(b *impl.Board) { b.Places = nil }, false}, {func(b *impl.Board) { b.Places = []int64{} }, false},
			{func(b *impl.Board) { b.Lasts = nil }, false}, {func(b *impl.Board) { b.Lasts = []int64{} }, false},
			{func(b *impl.Board) { b.Notes = nil }, false}, {func(b *impl.Board) { b.Notes = [][]impl.Note{} }, false},
			{func(b *impl.Board) { b.Next = nil }, false}, {func(b *impl.Board) { b.Next = []int64{} }, false},
			{func(b *impl.Board) { b.Seen = nil }, reads == 0}, {func(b *impl.Board) { b.Seen = []int64{} }, reads == 0},
			{func(b *impl.Board) { b.From = nil }, reads == 0}, {func(b *impl.Board) { b.From = []int64{} }, reads == 0},
			{func(b *impl.Board) { b.Rows = nil }, false}, {func(b *impl.Board) { b.Rows = [][]int64{} }, false},
			{func(b *impl.Board) { b.Rows = make([][]int64, 3) }, true}, {func(b *impl.Board) { b.Rows = [][]int64{{}, {}, {}} }, true},
			{func(b *impl.Board) { b.Notes = make([][]impl.Note, len(b.Work)) }, true}, {func(b *impl.Board) { b.Notes[len(b.Work)-1] = []impl.Note{} }, true},
		} {
			b := copiedBoard(right)
			if c.change(&b); mustJudgeBoard(t, b) != c.is || impl.BoardOk(b) != c.is {
				t.Errorf("%d: BoardOk(%v) = %v", i, b, impl.BoardOk(b))
			}
		}
	}
}

func TestEndedByHand(t *testing.T) {
	for _, c := range []struct {
		text, next, notes string
		want              bool
	}{
		// New boards, of works with and without Deeds.
		{"-", "0", "", true}, {"- | -", "00", "|", true}, {"- | - | -", "000", "||", true}, {"wait", "0", "", false}, {"read x", "0", "", false}, {"write x 1; read x", "0", "", false}, {"- | - | wait", "000", "||", false}, {"write x 1; read y | write y 1; read x", "00", "|", false},
		// Nothing to do, but a note.
		{"-", "0", "x00", false}, {"- | -", "00", "|z12", false}, {"- | - | -", "000", "y00||", false},
		// All is done but one Deed, of the first clerk or of the last one.
		{"wait", "1", "", true}, {"write x 1; read x", "1", "", false}, {"write x 1; read x", "2", "", true}, {"write x 1; read y | write y 1; read x", "12", "|", false}, {"write x 1; read y | write y 1; read x", "21", "|", false}, {"write x 1; read y | write y 1; read x", "20", "|", false}, {"write x 1; read y | write y 1; read x", "22", "|", true}, {"read x | - | wait; wait", "101", "||", false}, {"read x | - | wait; wait", "002", "||", false}, {"read x | - | wait; wait", "102", "||", true},
		// All is done, but a note is left.
		{"write x 1; read x", "2", "x13", false}, {"write x 1; read y | write y 1; read x", "22", "x13|", false}, {"write x 1; read y | write y 1; read x", "22", "|y15", false}, {"write x 1; read y | write y 1; read x", "22", "x13|y15", false}, {"read x | - | wait; wait", "102", "|x00|", false}, {"read x | - | wait; wait", "102", "||z03 z03", false},
		// Both.
		{"write x 1; read x", "1", "x13", false}, {"write x 1; read y | write y 1; read x", "12", "|y15", false},
	} {
		b := withNotes(c.text, c.notes)
		b.Next = numbersNamed(c.next)
		if got := impl.Ended(b); got != c.want {
			t.Errorf("Ended of %q, %s done, notes %q: %v", c.text, c.next, c.notes, got)
		}
		mustBeBoard(t, b, c.text)
		// What else stands there is not asked, as long as it is right.
		b.Places, b.Lasts, b.Rows = numbersNamed("987"), numbersNamed("210"), make([][]int64, 3)
		for i := range b.Seen {
			b.Seen[i], b.From[i] = 9, 0
		}
		if got := impl.Ended(b); got != c.want {
			t.Errorf("Ended(%v) = %v", b, got)
		}
		b.Places[0] = 10
		mustBeNoBoard(t, b, c.text)
	}
}

func TestShownBoardByHand(t *testing.T) {
	for _, c := range []struct{ text, seen, places, want string }{
		{"-", "", "000", "000"}, {"write x 1", "", "123", "123"}, {"read x", "-", "000", "-000"}, {"read x", "0", "000", "0000"}, {"read z", "9", "120", "9120"}, {"swap y 5", "0", "050", "0050"},
		{"write x 1; read y | write y 1; read x", "--", "000", "--000"}, {"write x 1; read y | write y 1; read x", "0-", "100", "0-100"}, {"write x 1; read y | write y 1; read x", "-1", "110", "-1110"}, {"write x 1; read y | write y 1; read x", "00", "110", "00110"},
		{"read x; read y; read z; read x; read y | read z", "123456", "789", "123456789"}, {"swap x 1 | swap x 2 | swap x 3", "0-1", "200", "0-1200"}, {"- | - | -", "", "987", "987"},
	} {
		b := boardTold(clerksNamed(c.text))
		b.Seen, b.Places = digitsNamed(c.seen), numbersNamed(c.places)
		if got := impl.ShownBoard(b); !sameList(got, digitsNamed(c.want)) {
			t.Errorf("ShownBoard(%v) = %v, want %s", b, got, c.want)
		}
		mustBeBoard(t, b, c.text)
		// Notes, what is done, and where a read is from are not shown.
		for clerk, list := range b.Work {
			b.Notes[clerk], b.Next[clerk] = notesNamed("x80 y81 z82"), int64(len(list))
		}
		for i := range b.From {
			b.From[i] = 2
		}
		b.Lasts, b.Rows = numbersNamed("111"), make([][]int64, 3)
		if got := impl.ShownBoard(b); !sameList(got, digitsNamed(c.want)) {
			t.Errorf("ShownBoard(%v) = %v, want %s", b, got, c.want)
		}
		b.Lasts[2] = -1
		mustBeNoBoard(t, b, c.text)
	}
}

func TestBoardsOfVeryLongLists(t *testing.T) {
	const long = 1 << 20
	zeros, lists, notes, clerks := make([]int64, long), make([][]int64, long), make([]impl.Note, long), make([][]impl.Deed, long)
	for _, right := range fullBoards() {
		for i, change := range []func(b *impl.Board){
			func(b *impl.Board) { b.Work = clerks }, func(b *impl.Board) { b.Work[0] = make([]impl.Deed, long) }, func(b *impl.Board) { b.Places = zeros }, func(b *impl.Board) { b.Lasts = zeros }, func(b *impl.Board) { b.Next = zeros },
			func(b *impl.Board) { b.Seen = zeros }, func(b *impl.Board) { b.From = zeros }, func(b *impl.Board) { b.Rows = lists }, func(b *impl.Board) { b.Rows[2] = zeros }, func(b *impl.Board) { b.Rows[0] = zeros[:257] },
			func(b *impl.Board) { b.Notes = make([][]impl.Note, long) }, func(b *impl.Board) { b.Notes[0] = notes }, func(b *impl.Board) { b.Notes[len(b.Notes)-1] = notes[:256] },
		} {
			b := copiedBoard(right)
			if change(&b); impl.BoardOk(b) || impl.Ended(b) || len(impl.ShownBoard(b)) != 0 {
				t.Errorf("%d: a board with a very long list", i)
			}
			mustSee(t, b, 0, 0, -1, -1)
		}
	}
	mustBeNew(t, clerks)
	mustBeNew(t, clerks[:4])
	mustBeNew(t, clerks[:3])
	for _, d := range []impl.Deed{{}, {Kind: 4}, {Kind: 3, Value: 1}} {
		list := make([]impl.Deed, long)
		for i := range list {
			list[i] = d
		}
		mustBeNew(t, workOf(list))
		mustBeNew(t, workOf(nil, list, nil))
	}
}

// span is where a list lies, with the room behind it.
type span struct{ from, behind uintptr }

func spanOf[T any](list []T) span {
	var one T
	from := uintptr(unsafe.Pointer(unsafe.SliceData(list)))
	return span{from, from + uintptr(cap(list))*unsafe.Sizeof(one)}
}

func (s span) meets(other span) bool {
	return s.from < other.behind && other.from < s.behind
}

func spansOfWork(w [][]impl.Deed) []span {
	spans := []span{spanOf(w)}
	for _, list := range w {
		spans = append(spans, spanOf(list))
	}
	return spans
}

func spansOfBoard(b impl.Board) []span {
	spans := append(spansOfWork(b.Work), spanOf(b.Places), spanOf(b.Lasts), spanOf(b.Notes), spanOf(b.Next), spanOf(b.Seen), spanOf(b.From), spanOf(b.Rows))
	for _, notes := range b.Notes {
		spans = append(spans, spanOf(notes))
	}
	for _, row := range b.Rows {
		spans = append(spans, spanOf(row))
	}
	return spans
}

// mustLieApart wants no two of the first ones to share memory, nor one of them with one of the others.
func mustLieApart(t *testing.T, spans []span, others []span, what any) {
	t.Helper()
	for i, one := range spans {
		if slices.ContainsFunc(spans[:i], one.meets) || slices.ContainsFunc(others, one.meets) {
			t.Errorf("%v: list %d shares memory", what, i)
		}
	}
}

// Spans tell what they should: of one memory, of two, of none.
func TestSpansThatMeet(t *testing.T) {
	room := make([]int64, 6)
	for _, c := range []struct {
		one, other []int64
		want       bool
	}{
		{room, room, true}, {room[:2], room[2:], true}, {room[:2:2], room[2:], false}, {room[:0], room[5:], true}, {room[:0:0], room, false}, {nil, room, false}, {room, make([]int64, 6), false}, {room[:3:3], room[2:4:4], true},
	} {
		if got := spanOf(c.one).meets(spanOf(c.other)); got != c.want {
			t.Errorf("%v and %v meet: %v", spanOf(c.one), spanOf(c.other), got)
		}
	}
}

func TestNewBoardsAreNewMemory(t *testing.T) {
	for _, w := range append(memoryWorks(), wrongWorks()...) {
		l := laid(w)
		before := l.copied()
		one, _ := impl.NewBoard(l.given)
		other, _ := impl.NewBoard(l.given)
		others := append(append(spansOfWork(l.given), spanOf(l.floor), spanOf(l.clerks)), spansOfBoard(other)...)
		mustLieApart(t, spansOfBoard(one), others, w)
		// What is written over one list is seen in no other one.
		want := copiedBoard(other)
		for _, list := range slices.Concat([][]int64{one.Places, one.Lasts, one.Next, one.Seen, one.From}, one.Rows) {
			spoil(list)
		}
		mustBeApart(t, one.Work)
		if !sameBoard(other, want) || !l.isAs(before) {
			t.Errorf("NewBoard(%v) shares memory", w)
		}
		mustBeNew(t, w)
	}
	// One list for all clerks: each of them has its own on the board.
	for _, list := range [][]impl.Deed{{}, clerkOf("read x"), clerkOf("write x 1", "read y")} {
		w := workOf(list, list, list)
		b, _ := impl.NewBoard(w)
		mustLieApart(t, spansOfBoard(b), spansOfWork(w), w)
		mustBeNew(t, w)
	}
}

// A board's lists may be changed, and handed in again: it is asked by what it is now. What comes of it is no longer what is new.
func TestABoardThatIsChanged(t *testing.T) {
	w := clerksNamed("write x 1; read x")
	b, _ := impl.NewBoard(w)
	b.Notes[0] = append(b.Notes[0], impl.Note{Value: 1, Event: 3})
	b.Next[0]++
	mustSee(t, b, 0, 0, 1, 3)
	b.Notes[0][0].Value = 7
	mustSee(t, b, 0, 0, 7, 3)
	b.Notes[0][0].Place = 1
	mustSee(t, b, 0, 0, 0, 0)
	b.Work[0][0].Value, b.Places[0], b.Rows[0][0], b.From[0], b.Seen[0] = 9, 8, 2, 4, 5
	mustBeBoard(t, b, "changed")
	b.Seen[0] = 10
	mustBeNoBoard(t, b, "changed")
	mustBeNew(t, w)
	if w[0][0].Value != 1 {
		t.Errorf("the work is %v", w)
	}
}

// laidBoard is a board whose lists have room behind them, each with marks in it.
type laidBoard struct {
	given impl.Board
	work  laidWork
	lists [][]int64
	notes [][]impl.Note
	rows  [][]int64
	heaps [][]impl.Note
}

func laidOut(b impl.Board) laidBoard {
	l := laidBoard{work: laid(b.Work)}
	lay := func(list []int64) []int64 {
		given, room := roomy(list)
		l.lists = append(l.lists, room)
		return given
	}
	l.given = impl.Board{Work: l.work.given, Places: lay(b.Places), Lasts: lay(b.Lasts), Next: lay(b.Next), Seen: lay(b.Seen), From: lay(b.From)}
	for _, row := range b.Rows {
		l.rows = append(l.rows, lay(row))
	}
	for _, notes := range b.Notes {
		room := append(slices.Clone(notes), impl.Note{Place: 77, Value: -77, Event: 777}, impl.Note{Place: 1, Value: 2, Event: 3})
		l.notes = append(l.notes, room)
		l.heaps = append(l.heaps, room[:len(notes)])
	}
	l.rows, l.heaps = append(l.rows, numbersNamed("5"), nil), append(l.heaps, notesNamed("x55"), nil)
	l.given.Rows, l.given.Notes = l.rows[:len(b.Rows)], l.heaps[:len(b.Notes)]
	return l
}

// text tells all that stands there, and where the lists lie.
func (l laidBoard) text() string {
	where := []span{}
	for _, row := range l.rows {
		where = append(where, spanOf(row))
	}
	for _, heap := range l.heaps {
		where = append(where, spanOf(heap))
	}
	return fmt.Sprint(l.lists, l.notes, l.rows, l.heaps, where)
}

// memoryBoards are right, and wrong in each field.
func memoryBoards() []impl.Board {
	boards := append(rightBoards(), impl.Board{})
	for _, right := range fullBoards() {
		for i := range slotsOf(right) {
			b := copiedBoard(right)
			*slotsOf(b)[i].at = 77
			boards = append(boards, b)
		}
	}
	for _, w := range wrongWorks() {
		b := copiedBoard(fullBoards()[0])
		b.Work = w
		boards = append(boards, b)
	}
	return boards
}

func TestBoardsAreLeftAlone(t *testing.T) {
	for _, b := range memoryBoards() {
		l := laidOut(b)
		before, work := l.text(), l.work.copied()
		mustJudgeBoard(t, l.given)
		if l.text() != before || !l.work.isAs(work) {
			t.Errorf("of %v is left %v", b, l.given)
		}
	}
}

func TestShownBoardsAreNewMemory(t *testing.T) {
	for _, b := range memoryBoards() {
		l := laidOut(b)
		before := l.text()
		one, other := impl.ShownBoard(l.given), impl.ShownBoard(l.given)
		want := copied(other)
		mustLieApart(t, []span{spanOf(one), spanOf(other)}, spansOfBoard(l.given), b)
		spoil(one)
		if l.text() != before || !sameList(other, want) || !sameList(impl.ShownBoard(l.given), want) {
			t.Errorf("ShownBoard(%v) shares memory", b)
		}
		// What was handed in is changed, and the answer stays.
		spoil(l.given.Seen)
		spoil(l.given.Places)
		if !sameList(other, want) {
			t.Errorf("ShownBoard(%v) lies in the memory of the board", b)
		}
	}
}

// Lists of a board may lie in one memory, or be one.
func TestBoardsInOneMemory(t *testing.T) {
	w := clerksNamed("read x; write x 1 | read y; wait | read z; write z 2")
	room := numbersNamed("012012012")
	before := copied(room)
	for i := range 4 {
		list, notes := room[i:i+3], notesNamed("x13 y24")
		b := impl.Board{Work: w, Places: list, Lasts: list, Notes: [][]impl.Note{notes, notes, notes[:1]}, Next: room[3:6], Seen: list, From: room[i:3][:3], Rows: [][]int64{list, list, room}}
		mustBeBoard(t, b, "one memory")
		if shown := impl.ShownBoard(b); !sameList(shown, append(copied(list), list...)) {
			t.Errorf("ShownBoard(%v) = %v", b, shown)
		}
	}
	if !sameList(room, before) {
		t.Errorf("of %v is left %v", before, room)
	}
}
