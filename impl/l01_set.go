package impl

const MaxSize = 12

// noSet stands for what can't be gathered: no set is below 0, so it is never mistaken for one.
const noSet set = -1

// set has i in it where its bit 2^i is.
type set int64

func (s set) isOf(n int64) bool {
	return n >= 0 && n <= MaxSize && s >= 0 && s < 1<<n
}

func (s set) has(i int64) bool {
	return s.isOf(MaxSize) && inSize(i) && s>>i&1 == 1
}

// with stays noSet once it is, so that one wrong member spoils the whole gathering.
func (s set) with(i int64) set {
	if s == noSet || !inSize(i) {
		return noSet
	}
	return s | 1<<i
}

func inSize(i int64) bool { return i >= 0 && i < MaxSize }

// chosen is handed a question, not a set, so that it need not know what a member is.
func chosen(wanted func(int64) bool) []int64 {
	list := []int64{}
	for i := range int64(MaxSize) {
		if wanted(i) {
			list = append(list, i)
		}
	}
	return list
}

func folded(list []int64, add func(set, int64) set) set {
	var s set
	for _, i := range list {
		s = add(s, i)
	}
	return s
}

func SetOk(n int64, s int64) bool { return set(s).isOf(n) }

func InSet(s int64, i int64) bool { return set(s).has(i) }

func Members(s int64) []int64 { return chosen(set(s).has) }

func Gathered(list []int64) int64 { return int64(folded(list, set.with)) }
