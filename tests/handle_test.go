package tests

import (
	"math"
	"slices"
	"testing"

	"loop.example/g00805/impl"
)

// handlesByMaker are all handles that have a maker, written out: those of who in row who, the one of n at n.
var handlesByMaker = [][]int64{
	{0, 1, 2, 3, 4, 5, 6, 7, 8},
	{100, 101, 102, 103, 104, 105, 106, 107, 108},
	{200, 201, 202, 203, 204, 205, 206, 207, 208},
	{300, 301, 302, 303, 304, 305, 306, 307, 308},
}

// whosOutside are none of a process. Some are one when they are cut to fewer bits; a hundred times some is a handle again when it wraps around.
var whosOutside = []int64{
	-1, -2, -3, -4, -100, -255, -256, math.MinInt32, math.MinInt64 / 100, -1 << 62, math.MinInt64, math.MinInt64 + 1,
	4, 5, 9, 10, 99, 100, 256, 257, 1 << 16, 1 << 32, 1<<32 + 1, 1 << 58, 1<<58 + 3, 1 << 62, 1<<62 + 3,
	math.MaxInt32, math.MaxInt64 / 100, math.MaxInt64/100 + 1, math.MaxInt64 - 1, math.MaxInt64,
}

// countsOutside are no n of a handle. Some would make a handle of another who, or are one when they are cut to fewer bits.
var countsOutside = []int64{
	-1, -2, -8, -9, -92, -99, -100, -101, -192, -200, -300, -256, math.MinInt32, math.MinInt64, math.MinInt64 + 1, math.MinInt64 + 100,
	9, 10, 11, 15, 16, 98, 99, 100, 101, 108, 200, 208, 300, 308, 256, 257, 264, 999, 1000, 1 << 32, 1<<32 + 8,
	math.MaxInt32, math.MaxInt64 - 300, math.MaxInt64 - 1, math.MaxInt64,
}

// wantedHandle looks it up in the rows.
func wantedHandle(who, n int64) int64 {
	if who < 0 || who >= int64(len(handlesByMaker)) {
		return -1
	}
	row := handlesByMaker[who]
	if n < 0 || n >= int64(len(row)) {
		return -1
	}
	return row[n]
}

// wantedMaker goes through the rows.
func wantedMaker(handle int64) int64 {
	for who, row := range handlesByMaker {
		if slices.Contains(row, handle) {
			return int64(who)
		}
	}
	return -1
}

func checkHandle(t *testing.T, who, n, want int64) {
	t.Helper()
	if got := impl.HandleOf(who, n); got != want {
		t.Errorf("HandleOf(%d, %d) = %d, want %d", who, n, got, want)
	}
}

func checkMaker(t *testing.T, handle, want int64) {
	t.Helper()
	if got := impl.MakerOf(handle); got != want {
		t.Errorf("MakerOf(%d) = %d, want %d", handle, got, want)
	}
}

// everyOrigin calls with each who and n that make a handle, and with that handle as the rows have it.
func everyOrigin(call func(who, n, handle int64)) {
	for who, row := range handlesByMaker {
		for n, handle := range row {
			call(int64(who), int64(n), handle)
		}
	}
}

func TestLimitsOfHandles(t *testing.T) {
	if impl.MaxProcs != 4 || impl.MaxMade != 8 {
		t.Errorf("MaxProcs is %d and MaxMade %d, want 4 and 8", impl.MaxProcs, impl.MaxMade)
	}
	if len(handlesByMaker) != impl.MaxProcs {
		t.Errorf("there are %d rows of handles, want MaxProcs", len(handlesByMaker))
	}
	for who, row := range handlesByMaker {
		if len(row) != impl.MaxMade+1 {
			t.Errorf("row %d has %d handles, want the door and MaxMade", who, len(row))
		}
	}
}

func TestHandleOfEveryMaker(t *testing.T) {
	everyOrigin(func(who, n, handle int64) { checkHandle(t, who, n, handle) })
}

func TestHandleOfAtItsLimits(t *testing.T) {
	for _, c := range []struct {
		name   string
		who, n int64
		want   int64
	}{
		{"the least of both", 0, 0, 0},
		{"the least who, the greatest n", 0, impl.MaxMade, 8},
		{"the greatest who, the least n", impl.MaxProcs - 1, 0, 300},
		{"the greatest of both", impl.MaxProcs - 1, impl.MaxMade, 308},
		{"a who one below the least", -1, 0, -1},
		{"that, with the greatest n", -1, impl.MaxMade, -1},
		{"a who one above the greatest", impl.MaxProcs, 0, -1},
		{"that, with the greatest n", impl.MaxProcs, impl.MaxMade, -1},
		{"an n one below the least", 0, -1, -1},
		{"that, with the greatest who", impl.MaxProcs - 1, -1, -1},
		{"an n one above the greatest", 0, impl.MaxMade + 1, -1},
		{"that, with the greatest who", impl.MaxProcs - 1, impl.MaxMade + 1, -1},
		{"both one below", -1, -1, -1},
		{"both one above", impl.MaxProcs, impl.MaxMade + 1, -1},
		{"who one below, n one above", -1, impl.MaxMade + 1, -1},
		{"who one above, n one below", impl.MaxProcs, -1, -1},
	} {
		if got := impl.HandleOf(c.who, c.n); got != c.want {
			t.Errorf("%s: HandleOf(%d, %d) = %d, want %d", c.name, c.who, c.n, got, c.want)
		}
	}
}

// TestHandleOfAroundItsLimits has more of who and n on each side than there are handles, so that one beside the other's limits would be a handle again.
func TestHandleOfAroundItsLimits(t *testing.T) {
	for who := int64(-20); who <= 20; who++ {
		for n := int64(-1100); n <= 1100; n++ {
			checkHandle(t, who, n, wantedHandle(who, n))
		}
	}
}

func TestHandleOfWhatIsOutOfRange(t *testing.T) {
	for _, who := range whosOutside {
		for n := range int64(impl.MaxMade + 1) {
			checkHandle(t, who, n, -1)
		}
		for _, n := range countsOutside {
			checkHandle(t, who, n, -1)
		}
		// What is left of a hundred times who when it wraps around, made a handle again by n.
		checkHandle(t, who, -100*who, -1)
		checkHandle(t, who, 208-100*who, -1)
	}
	for _, n := range countsOutside {
		for who := range int64(impl.MaxProcs) {
			checkHandle(t, who, n, -1)
		}
	}
}

func TestMakerOfEveryHandle(t *testing.T) {
	everyOrigin(func(who, n, handle int64) {
		checkMaker(t, handle, who)
		checkMaker(t, impl.HandleOf(who, n), who)
	})
}

func TestMakerOfBesideHandles(t *testing.T) {
	for name, handles := range map[string][]int64{
		"just behind a maker's last":            {9, 109, 209, 309},
		"just ahead of a maker's first":         {-1, 99, 199, 299},
		"further between two makers":            {10, 50, 98, 110, 150, 198, 210, 250, 298},
		"of a maker behind the last":            {399, 400, 401, 408, 409, 500, 900, 908, 998, 999},
		"behind all handles":                    {1000, 1001, 1008, 1100, 10000},
		"of a maker ahead of the first":         {-100, -99, -92, -91, -101, -108, -109},
		"a maker's, but for the sign":           {-1, -8, -100, -108, -200, -208, -300, -308},
		"between two makers', but for the sign": {-9, -50, -109, -150, -309, -400},
		"a maker's, counted from the bottom":    {math.MinInt64, math.MinInt64 + 8, math.MinInt64 + 100, math.MinInt64 + 308},
	} {
		for _, handle := range handles {
			if got := impl.MakerOf(handle); got != -1 {
				t.Errorf("%s: MakerOf(%d) = %d, want -1", name, handle, got)
			}
		}
	}
}

func TestMakerOfEveryNumber(t *testing.T) {
	makers := map[int64]int64{}
	for handle := int64(-2); handle <= 1001; handle++ {
		checkMaker(t, handle, wantedMaker(handle))
		makers[impl.MakerOf(handle)]++
	}
	for who := range int64(impl.MaxProcs) {
		if makers[who] != impl.MaxMade+1 {
			t.Errorf("%d has made %d handles, want %d", who, makers[who], impl.MaxMade+1)
		}
	}
	if makers[-1] != 1004-36 || len(makers) != impl.MaxProcs+1 {
		t.Errorf("%d numbers have no maker, and the makers and none are %d", makers[-1], len(makers))
	}
}

func TestMakerOfNumbersFarAway(t *testing.T) {
	for handle := int64(-100000); handle <= 100000; handle++ {
		if handle < 0 || handle > 308 {
			checkMaker(t, handle, -1)
		}
	}
	for _, handle := range handlesOutside {
		checkMaker(t, handle, -1)
	}
	for n := range int64(1100) {
		checkMaker(t, math.MinInt64+n, -1)
		checkMaker(t, math.MaxInt64-n, -1)
	}
}

// TestMakerOfHandlesWhenCut has numbers that are a handle again when they are cut to fewer bits, or are one but for the sign.
func TestMakerOfHandlesWhenCut(t *testing.T) {
	everyOrigin(func(who, n, handle int64) {
		for _, bits := range []int{10, 16, 31, 32, 48, 62} {
			checkMaker(t, handle+1<<bits, -1)
			checkMaker(t, handle-1<<bits, -1)
		}
		checkMaker(t, handle+math.MinInt64, -1)
		if handle > 0 {
			checkMaker(t, -handle, -1)
		}
	})
}

func TestNoTwoHandlesAreAlike(t *testing.T) {
	madeOf := map[int64][2]int64{}
	for who := range int64(impl.MaxProcs) {
		for n := range int64(impl.MaxMade + 1) {
			handle := impl.HandleOf(who, n)
			if other, there := madeOf[handle]; there {
				t.Errorf("handle %d is made of %d, %d and of %v", handle, who, n, other)
			}
			madeOf[handle] = [2]int64{who, n}
		}
	}
	if len(madeOf) != 36 {
		t.Errorf("there are %d handles, want 36", len(madeOf))
	}
}

// TestEachHandleHasOneMaker asks of each number who could have made it: who has is its maker, and nobody else is.
func TestEachHandleHasOneMaker(t *testing.T) {
	for handle := int64(-2); handle <= 1001; handle++ {
		makers := []int64{}
		for who := int64(-2); who <= impl.MaxProcs+2; who++ {
			for n := int64(-2); n <= impl.MaxMade+2; n++ {
				if made := impl.HandleOf(who, n); made == handle && made != -1 {
					makers = append(makers, who)
				}
			}
		}
		if len(makers) > 1 {
			t.Errorf("handle %d has the makers %v, want one at most", handle, makers)
		}
		want := int64(-1)
		if len(makers) == 1 {
			want = makers[0]
		}
		checkMaker(t, handle, want)
	}
}

// TestMadeHandlesAreHandlesOfLabels puts each of them into a label.
func TestMadeHandlesAreHandlesOfLabels(t *testing.T) {
	everyOrigin(func(who, n, _ int64) {
		handle := impl.HandleOf(who, n)
		l, is := impl.With(impl.Plain(lv1), handle, star)
		if !is || !equalLabels(l, labelOf(lv1, handle, star)) {
			t.Errorf("handle %d of %d, %d: With answers %v, %v", handle, who, n, l, is)
		}
	})
}

// TestHandlesAreTheSameAgain asks behind other questions, and in another order.
func TestHandlesAreTheSameAgain(t *testing.T) {
	for who := int64(impl.MaxProcs); who >= -1; who-- {
		for n := int64(impl.MaxMade + 1); n >= -1; n-- {
			checkHandle(t, who, n, wantedHandle(who, n))
			checkMaker(t, math.MaxInt64-n, -1)
			checkHandle(t, who, n, wantedHandle(who, n))
		}
	}
	for handle := int64(1001); handle >= -2; handle-- {
		checkMaker(t, handle, wantedMaker(handle))
		checkHandle(t, math.MinInt64+handle+2, 0, -1)
		checkMaker(t, handle, wantedMaker(handle))
	}
}
