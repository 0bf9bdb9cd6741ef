package tests

import (
	"math"
	"strings"
	"testing"

	"loop.example/g00805/impl"
)

// rowOfLevels is the row as the document tells it: each level stands at its own number.
var rowOfLevels = []struct {
	level int64
	text  string
}{
	{impl.LvStar, "*"},
	{impl.Lv0, "0"},
	{impl.Lv1, "1"},
	{impl.Lv2, "2"},
	{impl.Lv3, "3"},
}

// numbersOutside stand on both sides of the row's ends. Some of them are levels again when they are cut to fewer bits.
var numbersOutside = []int64{
	-1, -2, -3, -4, -5, -256, -1 << 32, math.MinInt32, math.MinInt64, math.MinInt64 + 1,
	5, 6, 7, 42, 48, 255, 256, 258, 1 << 32, 1<<32 + 2, math.MaxInt32, math.MaxInt64 - 1, math.MaxInt64,
}

func TestLevelsStandInARow(t *testing.T) {
	if len(rowOfLevels) != 5 {
		t.Fatalf("there are %d levels, want 5", len(rowOfLevels))
	}
	for i, row := range rowOfLevels {
		if row.level != int64(i) {
			t.Errorf("the level shown as %q is %d, want %d", row.text, row.level, i)
		}
	}
}

func TestLevelOk(t *testing.T) {
	for _, row := range rowOfLevels {
		if !impl.LevelOk(row.level) {
			t.Errorf("LevelOk(%d) = false, want true", row.level)
		}
	}
	for _, n := range numbersOutside {
		if impl.LevelOk(n) {
			t.Errorf("LevelOk(%d) = true, want false", n)
		}
	}
}

func TestHigherAndLowerOfEveryPair(t *testing.T) {
	for i := range rowOfLevels {
		for j := i; j < len(rowOfLevels); j++ {
			low, high := rowOfLevels[i].level, rowOfLevels[j].level
			for _, pair := range [][2]int64{{low, high}, {high, low}} {
				if got := impl.Higher(pair[0], pair[1]); got != high {
					t.Errorf("Higher(%d, %d) = %d, want %d", pair[0], pair[1], got, high)
				}
				if got := impl.Lower(pair[0], pair[1]); got != low {
					t.Errorf("Lower(%d, %d) = %d, want %d", pair[0], pair[1], got, low)
				}
			}
		}
	}
}

func TestHigherAndLowerOfNoLevel(t *testing.T) {
	check := func(a, b int64) {
		t.Helper()
		if got := impl.Higher(a, b); got != -1 {
			t.Errorf("Higher(%d, %d) = %d, want -1", a, b, got)
		}
		if got := impl.Lower(a, b); got != -1 {
			t.Errorf("Lower(%d, %d) = %d, want -1", a, b, got)
		}
	}
	for _, n := range numbersOutside {
		for _, row := range rowOfLevels {
			check(n, row.level)
			check(row.level, n)
		}
		for _, m := range numbersOutside {
			check(n, m)
		}
	}
}

func TestShowLevel(t *testing.T) {
	for _, row := range rowOfLevels {
		if got := impl.ShowLevel(row.level); got != row.text {
			t.Errorf("ShowLevel(%d) = %q, want %q", row.level, got, row.text)
		}
	}
	for _, n := range numbersOutside {
		if got := impl.ShowLevel(n); got != "" {
			t.Errorf("ShowLevel(%d) = %q, want an empty text", n, got)
		}
	}
}

func TestWhatIsShownIsReadAsIt(t *testing.T) {
	for _, row := range rowOfLevels {
		if got := impl.ReadLevel(row.text); got != row.level {
			t.Errorf("ReadLevel(%q) = %d, want %d", row.text, got, row.level)
		}
		if got := impl.ReadLevel(impl.ShowLevel(row.level)); got != row.level {
			t.Errorf("level %d is shown and read as %d", row.level, got)
		}
	}
}

func TestTextsReadAsNoLevel(t *testing.T) {
	texts := []string{
		"", "4", "5", "9", "10", "-1", "-0", "+0", "+1",
		"00", "01", "02", "03", "04", "0*", "000000003", "00000000000000000000003",
		"**", "*0", "*1", "0 ", " 0", "3\n", "3\r", "\t1", "1\x00", "\x001", "1.0", "1e0", "0x1",
		"a", "x", "star", "Lv0", "'", ")", "+", ",", "/", ":", "\x00", "\x01", "\x04", "\xff", "\x80",
		"\u00b2", "\u0661", "\uff0a", "\uff11", "\u2217",
		"9223372036854775808", "18446744073709551617", "4294967296",
		strings.Repeat("*", 10000), strings.Repeat("0", 10000), strings.Repeat("3", 10000),
	}
	for _, s := range texts {
		if got := impl.ReadLevel(s); got != -1 {
			t.Errorf("ReadLevel of %d bytes %.30q = %d, want -1", len(s), s, got)
		}
	}
}

// TestShortTextsReadAsLevels goes through every text of one byte and of two: just five of them are read.
func TestShortTextsReadAsLevels(t *testing.T) {
	want := map[string]int64{}
	for _, row := range rowOfLevels {
		want[row.text] = row.level
	}
	check := func(s string) {
		level, there := want[s]
		if !there {
			level = -1
		}
		if got := impl.ReadLevel(s); got != level {
			t.Errorf("ReadLevel(%q) = %d, want %d", s, got, level)
		}
	}
	for a := range 256 {
		check(string([]byte{byte(a)}))
		for b := range 256 {
			check(string([]byte{byte(a), byte(b)}))
		}
	}
}
