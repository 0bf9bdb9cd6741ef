package tests

import (
	"maps"
	"math"
	"slices"
	"testing"

	"loop.example/g00805/impl"
)

const lv0, lv1, lv2, lv3, star = impl.Lv0, impl.Lv1, impl.Lv2, impl.Lv3, impl.LvStar

// labelOf makes a label of a base and, by twos, handles and levels; it need not be right.
func labelOf(base int64, parts ...int64) impl.Label {
	l := impl.Label{Base: base}
	for i := 0; i+1 < len(parts); i += 2 {
		l.Parts = append(l.Parts, impl.Part{Handle: parts[i], Level: parts[i+1]})
	}
	return l
}

// fullLabel has just as many parts as a label may have: the handles 10, 20 and so on.
func fullLabel() impl.Label {
	l := impl.Label{Base: lv1}
	for i := range int64(impl.MaxParts) {
		l.Parts = append(l.Parts, impl.Part{Handle: 10 * (i + 1), Level: lv3})
	}
	return l
}

func equalLabels(a, b impl.Label) bool {
	return a.Base == b.Base && slices.Equal(a.Parts, b.Parts)
}

func isZeroLabel(l impl.Label) bool {
	return l.Base == 0 && len(l.Parts) == 0
}

func rightLabels() []impl.Label {
	return []impl.Label{
		{},
		{Parts: []impl.Part{}},
		labelOf(star), labelOf(lv0), labelOf(lv1), labelOf(lv2), labelOf(lv3),
		labelOf(star, 0, lv0),
		labelOf(lv3, 999, star),
		labelOf(lv2, 0, star, 1, lv0, 2, lv1, 998, lv3, 999, star),
		labelOf(lv1, 5, star, 9, lv3),
		labelOf(lv0, 5, lv3, 6, lv3, 7, lv3),
		fullLabel(),
		labelOf(star, 0, lv3, 1, lv3, 2, lv3, 3, lv3, 4, lv3, 5, lv3, 6, lv3, 999, lv0),
	}
}

// wrongLabels are right but for one thing each, so that no other rule refuses them.
func wrongLabels() map[string]impl.Label {
	wrong := map[string]impl.Label{
		"a base below the row":          labelOf(-1, 5, lv2),
		"a base above the row":          labelOf(5, 5, lv2),
		"a base alone, below":           labelOf(-1),
		"a base alone, above":           labelOf(5),
		"a base far below":              labelOf(math.MinInt64, 5, lv2),
		"a base far above":              labelOf(math.MaxInt64, 5, lv2),
		"a base that is one when cut":   labelOf(1<<32+1, 5, lv2),
		"a part of the base's level":    labelOf(lv1, 5, lv1),
		"a later part of the base's":    labelOf(lv1, 5, lv2, 6, lv3, 7, lv1),
		"a part of the star's base":     labelOf(star, 5, star),
		"a part of the level 3's base":  labelOf(lv3, 5, lv3),
		"a level below the row":         labelOf(lv1, 5, -1),
		"a level above the row":         labelOf(lv1, 5, 5),
		"a later level that is none":    labelOf(lv1, 5, lv2, 6, 5),
		"a first level that is none":    labelOf(lv1, 5, -1, 6, lv2),
		"a level far above":             labelOf(lv1, 5, math.MaxInt64),
		"a level far below":             labelOf(lv1, 5, math.MinInt64),
		"alike handles, alike levels":   labelOf(lv1, 5, lv2, 5, lv2),
		"alike handles, other levels":   labelOf(lv1, 5, lv2, 5, lv3),
		"alike handles behind others":   labelOf(lv1, 3, lv2, 5, lv2, 5, lv3),
		"alike handles at nought":       labelOf(lv1, 0, lv2, 0, lv3),
		"alike handles at the end":      labelOf(lv1, 999, lv2, 999, lv3),
		"handles that fall":             labelOf(lv1, 9, lv2, 5, lv3),
		"handles that fall at last":     labelOf(lv1, 5, lv2, 9, lv2, 8, lv3),
		"handles that fall at first":    labelOf(lv1, 9, lv2, 5, lv2, 10, lv3),
		"the first handle come again":   labelOf(lv1, 5, lv2, 9, lv2, 5, lv3),
		"a handle below 0":              labelOf(lv1, -1, lv2),
		"a handle below 0 ahead":        labelOf(lv1, -1, lv2, 5, lv2),
		"a handle of 1000":              labelOf(lv1, 1000, lv2),
		"a handle of 1000 behind":       labelOf(lv1, 5, lv2, 1000, lv2),
		"a handle far below":            labelOf(lv1, math.MinInt64, lv2),
		"a handle far above":            labelOf(lv1, math.MaxInt64, lv2),
		"a handle that is one when cut": labelOf(lv1, 1<<32+5, lv2),
	}
	more := fullLabel()
	more.Parts = append(more.Parts, impl.Part{Handle: 500, Level: lv3})
	wrong["a part more than there may be"] = more
	many := impl.Label{Base: lv1}
	for h := range int64(impl.MaxHandle + 1) {
		many.Parts = append(many.Parts, impl.Part{Handle: h, Level: lv0})
	}
	wrong["a part for every handle"] = many
	return wrong
}

// anyLabels are the right ones and the wrong ones, always in the same order.
func anyLabels() []impl.Label {
	all, wrong := rightLabels(), wrongLabels()
	for _, name := range slices.Sorted(maps.Keys(wrong)) {
		all = append(all, wrong[name])
	}
	return all
}

var handlesOutside = []int64{-1, -2, -1000, math.MinInt32, math.MinInt64, 1000, 1001, 1 << 32, 1<<32 + 5, math.MaxInt64}

// heldLabel is a label with spare room behind its parts; the room is filled, so that a write into it shows.
func heldLabel(l impl.Label) (impl.Label, []impl.Part) {
	room := make([]impl.Part, len(l.Parts)+10)
	for i := range room {
		room[i] = impl.Part{Handle: 7000 + int64(i), Level: 70}
	}
	copy(room, l.Parts)
	return impl.Label{Base: l.Base, Parts: room[:len(l.Parts)]}, room
}

// spoil writes over all that a list holds, and over its spare room.
func spoil[E any](list []E, with E) {
	list = list[:cap(list)]
	for i := range list {
		list[i] = with
	}
}

var spoiled = impl.Part{Handle: -7, Level: -7}

func TestLimitsOfLabels(t *testing.T) {
	if impl.MaxHandle != 999 || impl.MaxParts != 8 {
		t.Errorf("MaxHandle is %d and MaxParts %d, want 999 and 8", impl.MaxHandle, impl.MaxParts)
	}
}

func TestLabelOk(t *testing.T) {
	for _, l := range rightLabels() {
		if !impl.LabelOk(l) {
			t.Errorf("LabelOk(%v) = false, want true", l)
		}
	}
	for name, l := range wrongLabels() {
		if impl.LabelOk(l) {
			t.Errorf("%s: LabelOk = true, want false", name)
		}
	}
}

func TestLabelOkOfEveryBaseAndLevel(t *testing.T) {
	for base := int64(-2); base <= 7; base++ {
		for level := int64(-2); level <= 7; level++ {
			want := impl.LevelOk(base) && impl.LevelOk(level) && base != level
			if got := impl.LabelOk(labelOf(base, 5, level)); got != want {
				t.Errorf("base %d, level %d: LabelOk = %v, want %v", base, level, got, want)
			}
		}
	}
}

func TestLabelOkOfEveryHandle(t *testing.T) {
	for h := int64(-3); h <= 1003; h++ {
		want := 0 <= h && h <= 999
		if got := impl.LabelOk(labelOf(lv1, h, lv2)); got != want {
			t.Errorf("handle %d: LabelOk = %v, want %v", h, got, want)
		}
	}
}

func TestLabelOkAtEachNumberOfParts(t *testing.T) {
	l := impl.Label{Base: lv1}
	for n := range int64(20) {
		if got, want := impl.LabelOk(l), n <= 8; got != want {
			t.Errorf("%d parts: LabelOk = %v, want %v", n, got, want)
		}
		l.Parts = append(l.Parts, impl.Part{Handle: n, Level: lv2})
	}
}

func TestPlain(t *testing.T) {
	for _, base := range []int64{star, lv0, lv1, lv2, lv3} {
		l := impl.Plain(base)
		if l.Base != base || len(l.Parts) != 0 || !impl.LabelOk(l) {
			t.Errorf("Plain(%d) = %v", base, l)
		}
		for h := range int64(1000) {
			if got := impl.LevelOf(l, h); got != base {
				t.Fatalf("Plain(%d) has level %d of handle %d", base, got, h)
			}
		}
	}
	for _, n := range numbersOutside {
		if l := impl.Plain(n); !isZeroLabel(l) {
			t.Errorf("Plain(%d) = %v, want the zero Label", n, l)
		}
	}
}

func TestLevelOfPartsAndBase(t *testing.T) {
	l := labelOf(lv1, 0, lv3, 5, star, 9, lv2, 999, lv0)
	of := map[int64]int64{0: lv3, 5: star, 9: lv2, 999: lv0}
	for h := range int64(1000) {
		want, there := of[h]
		if !there {
			want = lv1
		}
		if got := impl.LevelOf(l, h); got != want {
			t.Errorf("LevelOf handle %d = %d, want %d", h, got, want)
		}
	}
	full := fullLabel()
	for _, p := range full.Parts {
		if got := impl.LevelOf(full, p.Handle); got != p.Level {
			t.Errorf("LevelOf handle %d = %d, want %d", p.Handle, got, p.Level)
		}
	}
}

func TestLevelOfWhatIsNotThere(t *testing.T) {
	for _, l := range rightLabels() {
		for _, h := range handlesOutside {
			if got := impl.LevelOf(l, h); got != -1 {
				t.Errorf("LevelOf(%v, %d) = %d, want -1", l, h, got)
			}
		}
	}
	for name, l := range wrongLabels() {
		for _, h := range []int64{0, 3, 5, 9, 10, 999, -1, 1000, math.MinInt64} {
			if got := impl.LevelOf(l, h); got != -1 {
				t.Errorf("%s: LevelOf handle %d = %d, want -1", name, h, got)
			}
		}
	}
}

func TestWith(t *testing.T) {
	l := labelOf(lv1, 5, star, 9, lv3, 20, lv0)
	for _, c := range []struct {
		name   string
		handle int64
		level  int64
		want   impl.Label
	}{
		{"ahead of all", 2, lv2, labelOf(lv1, 2, lv2, 5, star, 9, lv3, 20, lv0)},
		{"at nought", 0, lv2, labelOf(lv1, 0, lv2, 5, star, 9, lv3, 20, lv0)},
		{"just ahead of the first", 4, lv2, labelOf(lv1, 4, lv2, 5, star, 9, lv3, 20, lv0)},
		{"just behind the first", 6, star, labelOf(lv1, 5, star, 6, star, 9, lv3, 20, lv0)},
		{"between", 12, lv0, labelOf(lv1, 5, star, 9, lv3, 12, lv0, 20, lv0)},
		{"behind all", 21, lv3, labelOf(lv1, 5, star, 9, lv3, 20, lv0, 21, lv3)},
		{"at the last handle", 999, star, labelOf(lv1, 5, star, 9, lv3, 20, lv0, 999, star)},
		{"in the first one's place", 5, lv2, labelOf(lv1, 5, lv2, 9, lv3, 20, lv0)},
		{"in the middle one's place", 9, star, labelOf(lv1, 5, star, 9, star, 20, lv0)},
		{"in the last one's place", 20, lv3, labelOf(lv1, 5, star, 9, lv3, 20, lv3)},
		{"what is there already", 9, lv3, l},
		{"the base for the first one", 5, lv1, labelOf(lv1, 9, lv3, 20, lv0)},
		{"the base for the middle one", 9, lv1, labelOf(lv1, 5, star, 20, lv0)},
		{"the base for the last one", 20, lv1, labelOf(lv1, 5, star, 9, lv3)},
		{"the base ahead of all", 0, lv1, l},
		{"the base between", 12, lv1, l},
		{"the base behind all", 999, lv1, l},
	} {
		if got, is := impl.With(l, c.handle, c.level); !is || !equalLabels(got, c.want) {
			t.Errorf("%s: %v, %v, want %v, true", c.name, got, is, c.want)
		}
	}
}

func TestWithOfNoParts(t *testing.T) {
	for base := int64(star); base <= lv3; base++ {
		for level := int64(star); level <= lv3; level++ {
			want := labelOf(base)
			if level != base {
				want = labelOf(base, 7, level)
			}
			got, is := impl.With(impl.Plain(base), 7, level)
			if !is || !equalLabels(got, want) {
				t.Errorf("base %d, level %d: %v, %v, want %v, true", base, level, got, is, want)
			}
			back, is := impl.With(got, 7, base)
			if !is || !equalLabels(back, labelOf(base)) {
				t.Errorf("base %d, level %d: taken away again %v, %v", base, level, back, is)
			}
		}
	}
}

func TestWithAtMaxParts(t *testing.T) {
	full := fullLabel()
	for _, h := range []int64{0, 5, 15, 45, 79, 81, 999} {
		if got, is := impl.With(full, h, lv2); is || !isZeroLabel(got) {
			t.Errorf("one more at %d: %v, %v, want the zero Label and false", h, got, is)
		}
		if got, is := impl.With(full, h, lv1); !is || !equalLabels(got, full) {
			t.Errorf("the base at %d: %v, %v, want the same and true", h, got, is)
		}
	}
	for i, p := range full.Parts {
		want := fullLabel()
		want.Parts[i].Level = lv0
		if got, is := impl.With(full, p.Handle, lv0); !is || !equalLabels(got, want) {
			t.Errorf("another at %d: %v, %v, want %v, true", p.Handle, got, is, want)
		}
		want = fullLabel()
		want.Parts = slices.Delete(want.Parts, i, i+1)
		less, is := impl.With(full, p.Handle, lv1)
		if !is || !equalLabels(less, want) {
			t.Errorf("none at %d: %v, %v, want %v, true", p.Handle, less, is, want)
		}
		if got, is := impl.With(less, p.Handle, lv3); !is || !equalLabels(got, full) {
			t.Errorf("put again at %d: %v, %v, want %v, true", p.Handle, got, is, full)
		}
	}
}

func TestWithOfWhatIsNotRight(t *testing.T) {
	refused := func(name string, l impl.Label, handle, level int64) {
		t.Helper()
		if got, is := impl.With(l, handle, level); is || !isZeroLabel(got) {
			t.Errorf("%s: With handle %d, level %d: %v, %v, want the zero Label and false", name, handle, level, got, is)
		}
	}
	for name, l := range wrongLabels() {
		for _, h := range []int64{0, 5, 9, 500, 999, -1, 1000} {
			for level := int64(-1); level <= 5; level++ {
				refused(name, l, h, level)
			}
		}
	}
	for _, l := range rightLabels() {
		for _, h := range handlesOutside {
			refused("no such handle", l, h, lv2)
			refused("no such handle, the base", l, h, l.Base)
			refused("no such handle and level", l, h, -1)
		}
		for _, n := range numbersOutside {
			refused("no such level", l, 5, n)
			refused("no such level, a handle that has no part", l, 777, n)
		}
	}
}

// TestLabelsKeepWhatWasPutIn puts levels in one behind the other, and holds every handle against a table of what it should have.
func TestLabelsKeepWhatWasPutIn(t *testing.T) {
	handles := []int64{0, 1, 2, 77, 100, 499, 500, 501, 700, 801, 900, 998, 999}
	for base := int64(star); base <= lv3; base++ {
		l, table, refused := impl.Plain(base), map[int64]int64{}, 0
		for i := range int64(400) {
			h, level := handles[i*5%13], (i*i+i/7)%5
			_, has := table[h]
			if len(table) == 8 && !has && level != base {
				if got, is := impl.With(l, h, level); is || !isZeroLabel(got) {
					t.Fatalf("base %d, turn %d: a part too many: %v, %v", base, i, got, is)
				}
				h, level = l.Parts[i%8].Handle, base
				refused++
			}
			got, is := impl.With(l, h, level)
			table[h] = level
			if level == base {
				delete(table, h)
			}
			if !is || !impl.LabelOk(got) || got.Base != base || len(got.Parts) != len(table) {
				t.Fatalf("base %d, turn %d: %v, %v", base, i, got, is)
			}
			l = got
			for h := range int64(1000) {
				want, has := table[h]
				if !has {
					want = base
				}
				if level := impl.LevelOf(l, h); level != want {
					t.Fatalf("base %d, turn %d: handle %d has level %d, want %d", base, i, h, level, want)
				}
			}
		}
		if refused == 0 {
			t.Errorf("base %d: it never came to a part too many", base)
		}
	}
}

func TestHandlesOf(t *testing.T) {
	for _, c := range []struct {
		name string
		a, b impl.Label
		want []int64
	}{
		{"no parts", impl.Label{}, impl.Label{}, nil},
		{"no parts, other bases", labelOf(lv1), labelOf(lv3), nil},
		{"those of one", labelOf(lv1, 5, star, 9, lv3), labelOf(lv0), []int64{5, 9}},
		{"some of each", labelOf(lv1, 5, star, 9, lv3), labelOf(star, 7, lv1, 9, lv0), []int64{5, 7, 9}},
		{"all of both", labelOf(lv1, 5, star, 9, lv3), labelOf(lv1, 5, star, 9, lv3), []int64{5, 9}},
		{"one inside the other", labelOf(lv1, 5, star, 7, lv0, 9, lv3), labelOf(lv2, 7, lv0), []int64{5, 7, 9}},
		{"one ahead of the other", labelOf(lv1, 0, star, 1, lv0), labelOf(lv2, 998, lv0, 999, lv1), []int64{0, 1, 998, 999}},
		{"each between the other's", labelOf(lv1, 1, star, 3, lv0, 5, lv2), labelOf(lv2, 2, lv0, 4, lv1, 6, lv3), []int64{1, 2, 3, 4, 5, 6}},
		{"just the first alike", labelOf(lv1, 0, lv2, 3, lv2), labelOf(lv1, 0, lv3, 2, lv2), []int64{0, 2, 3}},
		{"a level that is the other's base", labelOf(lv1, 5, lv2), labelOf(lv2), []int64{5}},
	} {
		for _, got := range [][]int64{impl.HandlesOf(c.a, c.b), impl.HandlesOf(c.b, c.a)} {
			if !slices.Equal(got, c.want) {
				t.Errorf("%s: %v, want %v", c.name, got, c.want)
			}
		}
	}
}

func TestHandlesOfFullLabels(t *testing.T) {
	a, b := fullLabel(), fullLabel()
	same := []int64{10, 20, 30, 40, 50, 60, 70, 80}
	if got := impl.HandlesOf(a, b); !slices.Equal(got, same) {
		t.Errorf("alike: %v, want %v", got, same)
	}
	all := []int64{}
	for i := range b.Parts {
		b.Parts[i].Handle += 5
		all = append(all, 10*int64(i+1), 10*int64(i+1)+5)
	}
	for _, got := range [][]int64{impl.HandlesOf(a, b), impl.HandlesOf(b, a)} {
		if !slices.Equal(got, all) {
			t.Errorf("none alike: %v, want %v", got, all)
		}
	}
}

func TestHandlesOfWhatIsNotRight(t *testing.T) {
	for name, wrong := range wrongLabels() {
		for _, l := range rightLabels() {
			if got := impl.HandlesOf(wrong, l); len(got) != 0 {
				t.Errorf("%s first: %v, want nothing", name, got)
			}
			if got := impl.HandlesOf(l, wrong); len(got) != 0 {
				t.Errorf("%s second: %v, want nothing", name, got)
			}
		}
		if got := impl.HandlesOf(wrong, wrong); len(got) != 0 {
			t.Errorf("%s twice: %v, want nothing", name, got)
		}
	}
}

// TestArgumentsOfLabelsStay calls everything with spare room behind the parts, and holds that room against a copy.
func TestArgumentsOfLabelsStay(t *testing.T) {
	for _, l := range anyLabels() {
		held, room := heldLabel(l)
		copied := slices.Clone(room)
		impl.LabelOk(held)
		for _, h := range []int64{-1, 0, 5, 6, 9, 20, 45, 80, 81, 999, 1000} {
			impl.LevelOf(held, h)
			for level := int64(-1); level <= 5; level++ {
				impl.With(held, h, level)
			}
		}
		impl.HandlesOf(held, held)
		impl.HandlesOf(held, fullLabel())
		impl.HandlesOf(fullLabel(), held)
		if !slices.Equal(room, copied) {
			t.Errorf("an argument %v was written into: %v, want %v", l, room, copied)
		}
	}
}

// TestAnswersOfLabelsAreNewMemory writes over the arguments, and over one answer, and looks at the other.
func TestAnswersOfLabelsAreNewMemory(t *testing.T) {
	for _, l := range rightLabels() {
		for _, h := range []int64{0, 5, 6, 9, 10, 45, 80, 81, 999} {
			for level := int64(star); level <= lv3; level++ {
				held, room := heldLabel(l)
				copied := slices.Clone(room)
				first, _ := impl.With(held, h, level)
				second, _ := impl.With(held, h, level)
				want := impl.Label{Base: first.Base, Parts: slices.Clone(first.Parts)}
				spoil(second.Parts, spoiled)
				if !slices.Equal(room, copied) {
					t.Fatalf("With(%v, %d, %d) shares memory with its argument", l, h, level)
				}
				spoil(room, spoiled)
				if !equalLabels(first, want) {
					t.Fatalf("With(%v, %d, %d) shares memory with its argument or with another answer", l, h, level)
				}
			}
		}
	}
}

func TestHandlesOfAreNewMemory(t *testing.T) {
	a, b := fullLabel(), labelOf(lv2, 15, lv0, 999, lv1)
	first, second := impl.HandlesOf(a, b), impl.HandlesOf(a, b)
	spoil(second, -7)
	spoil(a.Parts, spoiled)
	spoil(b.Parts, spoiled)
	want := []int64{10, 15, 20, 30, 40, 50, 60, 70, 80, 999}
	if !slices.Equal(first, want) {
		t.Errorf("HandlesOf shares memory: %v, want %v", first, want)
	}
}

func TestPlainLabelsAreNewMemory(t *testing.T) {
	for n := int64(-1); n <= 5; n++ {
		first, second := impl.Plain(n), impl.Plain(n)
		first.Parts = append(first.Parts, impl.Part{Handle: 1, Level: lv2})
		second.Parts = append(second.Parts, spoiled)
		if first.Parts[0] != (impl.Part{Handle: 1, Level: lv2}) {
			t.Errorf("two labels of Plain(%d) share memory", n)
		}
	}
}
