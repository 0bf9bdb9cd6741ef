package impl

import "strconv"

// The levels stay without a type: they are handed over as int64, and stand for a level below just as well.
const (
	LvStar = iota
	Lv0
	Lv1
	Lv2
	Lv3
)

// level is a number that is asked as a level; it need not be one.
type level int64

// noLevel is less than every level: the order alone can't tell it from one.
const noLevel level = -1

func (l level) ok() bool {
	return LvStar <= l && l <= Lv3
}

func (l level) higher(m level) level {
	if !l.ok() || !m.ok() {
		return noLevel
	}
	return max(l, m)
}

func (l level) lower(m level) level {
	if !l.ok() || !m.ok() {
		return noLevel
	}
	return min(l, m)
}

func (l level) text() string {
	if !l.ok() {
		return ""
	}
	if l == LvStar {
		return "*"
	}
	return strconv.FormatInt(int64(l-Lv0), 10)
}

func LevelOk(n int64) bool { return level(n).ok() }

func Higher(a int64, b int64) int64 { return int64(level(a).higher(level(b))) }

func Lower(a int64, b int64) int64 { return int64(level(a).lower(level(b))) }

func ShowLevel(n int64) string { return level(n).text() }

// ReadLevel goes through what ShowLevel makes, so that the two can't drift apart.
func ReadLevel(s string) int64 {
	for l := level(LvStar); l.ok(); l++ {
		if l.text() == s {
			return int64(l)
		}
	}
	return int64(noLevel)
}
