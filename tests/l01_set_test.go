package tests

import (
	"math"
	"testing"

	"loop.example/g00411/impl"
)

const fullSet = 4095

// bitsOf tells by halving which bits a number from 0 to 4095 has.
func bitsOf(s int64) []int64 {
	list := []int64{}
	for i := int64(0); s > 0; i++ {
		if s%2 == 1 {
			list = append(list, i)
		}
		s /= 2
	}
	return list
}

func TestMaxSize(t *testing.T) {
	if impl.MaxSize != 12 {
		t.Fatal(impl.MaxSize)
	}
}

// Promise 1.
func TestGatheredMembersAreTheSet(t *testing.T) {
	for s := int64(0); s <= fullSet; s++ {
		if g := impl.Gathered(impl.Members(s)); g != s {
			t.Fatalf("Gathered(Members(%d)) = %d", s, g)
		}
	}
}

// Promise 1, from the other side: each list that rises is the Members of what it is Gathered to.
func TestMembersOfGatheredAreTheList(t *testing.T) {
	for s := int64(0); s <= fullSet; s++ {
		list := bitsOf(s)
		if m := impl.Members(impl.Gathered(list)); !sameList(m, list) {
			t.Fatalf("Members(Gathered(%v)) = %v", list, m)
		}
	}
}

func TestSetOkAtEveryLimit(t *testing.T) {
	for n := int64(0); n <= impl.MaxSize; n++ {
		past := power(n)
		for s := int64(-3); s <= fullSet+3; s++ {
			if got := impl.SetOk(n, s); got != (s >= 0 && s < past) {
				t.Fatalf("SetOk(%d, %d) = %v", n, s, got)
			}
		}
		for _, s := range far {
			if impl.SetOk(n, s) {
				t.Errorf("SetOk(%d, %d)", n, s)
			}
		}
	}
}

func TestSetOkOfNoSize(t *testing.T) {
	sizes := append([]int64{-64, -13, -12, -2, -1, 13, 14, 62, 63, 64, 65, 1 << 32}, far...)
	sets := append([]int64{-1, 0, 1, 2, 4095, 4096, 8191, 8192}, far...)
	for _, n := range sizes {
		for _, s := range sets {
			if impl.SetOk(n, s) {
				t.Errorf("SetOk(%d, %d)", n, s)
			}
		}
	}
}

func TestSetOkByHand(t *testing.T) {
	for _, c := range []struct {
		n, s int64
		want bool
	}{
		{0, 0, true}, {0, 1, false}, {0, -1, false},
		{1, 1, true}, {1, 2, false},
		{4, 15, true}, {4, 16, false},
		{12, 4095, true}, {12, 4096, false}, {12, 0, true}, {12, -1, false},
		{11, 2047, true}, {11, 2048, false},
		{13, 0, false}, {-1, 0, false},
	} {
		if got := impl.SetOk(c.n, c.s); got != c.want {
			t.Errorf("SetOk(%d, %d) = %v", c.n, c.s, got)
		}
	}
}

func TestInSetOfEverySet(t *testing.T) {
	for s := int64(0); s <= fullSet; s++ {
		var has [impl.MaxSize]bool
		for _, i := range bitsOf(s) {
			has[i] = true
		}
		for i := int64(-2); i <= impl.MaxSize+2; i++ {
			want := i >= 0 && i < impl.MaxSize && has[i]
			if got := impl.InSet(s, i); got != want {
				t.Fatalf("InSet(%d, %d) = %v", s, i, got)
			}
		}
	}
}

func TestInSetOfWrongOnes(t *testing.T) {
	wrongSets := append([]int64{-4096, -4095, -2, -1, 4096, 4097, 8191, 1<<32 + 1, 1<<62 + 1}, far...)
	for _, s := range wrongSets {
		for i := int64(-1); i <= 64; i++ {
			if impl.InSet(s, i) {
				t.Errorf("InSet(%d, %d)", s, i)
			}
		}
		for _, i := range far {
			if impl.InSet(s, i) {
				t.Errorf("InSet(%d, %d)", s, i)
			}
		}
	}
	wrongMembers := append([]int64{-64, -12, -1, 12, 13, 62, 63, 64, 65, 1 << 32}, far...)
	for _, i := range wrongMembers {
		for _, s := range []int64{0, 1, 2048, fullSet} {
			if impl.InSet(s, i) {
				t.Errorf("InSet(%d, %d)", s, i)
			}
		}
	}
}

func TestMembersRise(t *testing.T) {
	for s := int64(0); s <= fullSet; s++ {
		if m := impl.Members(s); !sameList(m, bitsOf(s)) {
			t.Fatalf("Members(%d) = %v", s, m)
		}
	}
}

func TestMembersOfNoSet(t *testing.T) {
	for _, s := range append([]int64{-4096, -4095, -2, -1, 4096, 4097, 8191, 1<<32 + 1}, far...) {
		if m := impl.Members(s); len(m) != 0 {
			t.Errorf("Members(%d) = %v", s, m)
		}
	}
}

func TestGatheredByHand(t *testing.T) {
	for _, c := range []struct {
		list []int64
		want int64
	}{
		{nil, 0}, {[]int64{}, 0},
		{[]int64{0}, 1}, {[]int64{11}, 2048},
		{[]int64{0, 3, 3}, 9}, {[]int64{3, 0, 3}, 9}, {[]int64{3, 3, 3}, 8},
		{[]int64{11, 0}, 2049}, {[]int64{2, 1, 0}, 7},
		{[]int64{0, 1, 2, 3, 4, 5, 6, 7, 8, 9, 10, 11}, 4095},
		{[]int64{11, 10, 9, 8, 7, 6, 5, 4, 3, 2, 1, 0, 11, 0}, 4095},
	} {
		if got := impl.Gathered(c.list); got != c.want {
			t.Errorf("Gathered(%v) = %d, want %d", c.list, got, c.want)
		}
	}
}

func TestGatheredOfALongList(t *testing.T) {
	list := make([]int64, 100000)
	for i := range list {
		list[i] = int64(i%2) * 11
	}
	if got := impl.Gathered(list); got != 2049 {
		t.Error(got)
	}
	list[len(list)-1] = 12
	if got := impl.Gathered(list); got != -1 {
		t.Error(got)
	}
}

// One wrong number refuses the list wherever it stands, also where others come behind it.
func TestGatheredOfWrongOnes(t *testing.T) {
	right := []int64{0, 5, 11, 5}
	for _, wrong := range append([]int64{-64, -12, -2, -1, 12, 13, 63, 64, 65, 1 << 32}, far...) {
		for at := 0; at <= len(right); at++ {
			list := append(copied(right[:at]), wrong)
			list = append(list, right[at:]...)
			if got := impl.Gathered(list); got != -1 {
				t.Errorf("Gathered(%v) = %d", list, got)
			}
		}
		if got := impl.Gathered([]int64{wrong, wrong}); got != -1 {
			t.Errorf("Gathered of %d twice = %d", wrong, got)
		}
	}
}

func TestGatheredLeavesItsListAlone(t *testing.T) {
	for _, first := range [][]int64{{}, {7, 0, 7}, {3, 12, 1}, {-1}, {math.MaxInt64, 2}} {
		room := append(copied(first), 77, -77, 5)
		before := copied(room)
		answer := impl.Gathered(room[:len(first)])
		if !sameList(room, before) {
			t.Errorf("Gathered(%v) left %v, was %v", first, room, before)
		}
		if again := impl.Gathered(first); again != answer {
			t.Errorf("Gathered(%v) = %d, with room behind it %d", first, again, answer)
		}
	}
}

func TestMembersAreNewMemory(t *testing.T) {
	for _, s := range []int64{1, 9, 2048, fullSet} {
		one, other := impl.Members(s), impl.Members(s)
		for i := range one {
			one[i] = -5
		}
		// What is behind the answer is the caller's, too: appending must reach nobody else.
		_ = append(one, 99)
		if !sameList(other, bitsOf(s)) {
			t.Errorf("two answers of Members(%d) share memory: %v", s, other)
		}
		if m := impl.Members(s); !sameList(m, bitsOf(s)) {
			t.Errorf("Members(%d) is now %v", s, m)
		}
	}
}
