package tests

import "math"

// far holds numbers that are out of every range of the document.
var far = []int64{math.MinInt64, math.MinInt64 + 1, math.MaxInt64 - 1, math.MaxInt64}

func sameList(a []int64, b []int64) bool {
	if len(a) != len(b) {
		return false
	}
	for i := range a {
		if a[i] != b[i] {
			return false
		}
	}
	return true
}

func copied(list []int64) []int64 {
	return append([]int64{}, list...)
}

// power is worked out by doubling, so that it shares no shift with the program.
func power(n int64) int64 {
	p := int64(1)
	for range n {
		p += p
	}
	return p
}

// listKey tells two lists apart that have at most a number for each event of a work, so that it can be asked whether one came before.
type listKey struct {
	length int
	all    [9]int64
}

func keyOf(list []int64) listKey {
	key := listKey{length: len(list)}
	copy(key.all[:], list)
	return key
}
