package tests

import (
	"slices"
	"testing"

	"loop.example/g00805/impl"
)

// starsLevel is what Stars should tell of one handle that has that level.
func starsLevel(level int64) int64 {
	if level == star {
		return star
	}
	return lv3
}

// taintedLevel is what Tainted should tell of one handle that has these levels.
func taintedLevel(has, clear, eff int64) int64 {
	if has == star {
		return star
	}
	return max(eff, min(has, clear))
}

func wantedStars(l impl.Label) impl.Label {
	levels := levelsOf(l)
	for h := range levels {
		levels[h] = starsLevel(levels[h])
	}
	return labelOfTable(starsLevel(l.Base), levels)
}

func wantedTaint(has, clear, eff impl.Label) (impl.Label, bool) {
	levels, cleared, brought := levelsOf(has), levelsOf(clear), levelsOf(eff)
	for h := range levels {
		levels[h] = taintedLevel(levels[h], cleared[h], brought[h])
	}
	l := labelOfTable(taintedLevel(has.Base, clear.Base, eff.Base), levels)
	if len(l.Parts) > impl.MaxParts {
		return impl.Label{}, false
	}
	return l, true
}

func checkStars(t *testing.T, name string, l, want impl.Label) {
	t.Helper()
	got, is := impl.Stars(l)
	if !is || !equalLabels(got, want) || !impl.LabelOk(got) {
		t.Errorf("%s: Stars(%v) = %v, %v, want %v, true", name, l, got, is, want)
	}
}

func checkTaint(t *testing.T, name string, has, clear, eff, want impl.Label, whether bool) {
	t.Helper()
	got, is := impl.Tainted(has, clear, eff)
	if is != whether || !equalLabels(got, want) {
		t.Errorf("%s: Tainted(%v, %v, %v) = %v, %v, want %v, %v", name, has, clear, eff, got, is, want, whether)
	}
}

// mixedThrees calls with labels by threes out of many, always the same ones; some have the same label in two places.
func mixedThrees(call func(has, clear, eff impl.Label)) {
	labels := mixedLabels()
	n := len(labels)
	for i, has := range labels {
		for j, clear := range labels {
			for k := range 4 {
				call(has, clear, labels[(7*i+11*j+k*(n/4))%n])
			}
		}
	}
}

// oneHandleLabels are all the labels with no parts but of the handle 5: 25 of them.
func oneHandleLabels() []impl.Label {
	all := []impl.Label{}
	for base := int64(star); base <= lv3; base++ {
		for level := int64(star); level <= lv3; level++ {
			levels := slices.Repeat([]int64{base}, 6)
			levels[5] = level
			all = append(all, labelOfTable(base, levels))
		}
	}
	return all
}

func TestStars(t *testing.T) {
	all := labelOf(lv1, 0, star, 1, lv0, 2, star, 3, lv2, 4, lv3, 5, star, 999, star)
	for _, c := range []struct {
		name    string
		l, want impl.Label
	}{
		{"no parts, the star", labelOf(star), labelOf(star)},
		{"no parts, nil and empty", impl.Label{Parts: []impl.Part{}}, impl.Label{}},
		{"no parts, the level 0", labelOf(lv0), labelOf(lv3)},
		{"no parts, the level 1", labelOf(lv1), labelOf(lv3)},
		{"no parts, the level 2", labelOf(lv2), labelOf(lv3)},
		{"no parts, the level 3", labelOf(lv3), labelOf(lv3)},
		{"a part that is the star", labelOf(lv2, 5, star), labelOf(lv3, 5, star)},
		{"a part that is not", labelOf(lv2, 5, lv1), labelOf(lv3)},
		{"a part that is the new base already", labelOf(lv2, 5, lv3), labelOf(lv3)},
		{"parts that are and that are not", all, labelOf(lv3, 0, star, 2, star, 5, star, 999, star)},
		{"the first part alone", labelOf(lv0, 0, star, 6, lv1, 7, lv2), labelOf(lv3, 0, star)},
		{"the last part alone", labelOf(lv0, 6, lv1, 7, lv2, 999, star), labelOf(lv3, 999, star)},
		{"the base a star, a part of each level", labelOf(star, 0, lv0, 5, lv1, 6, lv2, 999, lv3), labelOf(star, 0, lv3, 5, lv3, 6, lv3, 999, lv3)},
		{"the new base at last", labelOf(lv3, 5, star, 6, lv0, 7, lv2), labelOf(lv3, 5, star)},
		{"full, no stars", fullLabel(), labelOf(lv3)},
		{"full, all stars", apart(lv1, 8, star, 10), apart(lv3, 8, star, 10)},
		{"full, the base a star", apart(star, 8, lv0, 992), apart(star, 8, lv3, 992)},
		{"full, some stars", joined(lv2, apart(lv2, 4, star, 100), apart(lv2, 4, lv0, 500)), apart(lv3, 4, star, 100)},
	} {
		checkStars(t, c.name, c.l, c.want)
	}
}

func TestStarsOfEveryHandle(t *testing.T) {
	for _, labels := range [][]impl.Label{rightLabels(), smallLabels(), mixedLabels()} {
		for _, l := range labels {
			checkStars(t, "every handle", l, wantedStars(l))
		}
	}
}

// TestStarsAtEachNumberOfParts has so many stars among so many parts, the stars behind the others and ahead of them.
func TestStarsAtEachNumberOfParts(t *testing.T) {
	for n := range int64(impl.MaxParts + 1) {
		for m := range n + 1 {
			stars, others := apart(lv1, m, star, 500), n-m
			checkStars(t, "behind", joined(lv1, apart(lv1, others, lv2, 100), stars), joined(lv3, stars))
			checkStars(t, "ahead", joined(lv1, stars, apart(lv1, others, lv3, 900)), joined(lv3, stars))
		}
		checkStars(t, "the base a star", apart(star, n, lv1, 100), apart(star, n, lv3, 100))
	}
}

func TestStarsOfStarsAreTheSame(t *testing.T) {
	for _, l := range mixedLabels() {
		once, _ := impl.Stars(l)
		checkStars(t, "twice", once, once)
		if !impl.AtMost(l, once) {
			t.Errorf("Stars(%v) = %v: it is less", l, once)
		}
	}
}

func TestStarsOfWhatIsNotRight(t *testing.T) {
	for name, wrong := range wrongLabels() {
		if got, is := impl.Stars(wrong); is || !isZeroLabel(got) {
			t.Errorf("%s: Stars = %v, %v, want the zero Label and false", name, got, is)
		}
	}
}

func TestTainted(t *testing.T) {
	top := labelOf(lv3)
	for _, c := range []struct {
		name                   string
		has, clear, eff, wants impl.Label
	}{
		{"no parts, eff is more", labelOf(lv1), top, labelOf(lv2), labelOf(lv2)},
		{"no parts, eff is less", labelOf(lv2), top, labelOf(lv1), labelOf(lv2)},
		{"no parts, cleared", labelOf(lv2), labelOf(lv0), labelOf(star), labelOf(lv0)},
		{"no parts, cleared, and eff is more", labelOf(lv2), labelOf(lv0), labelOf(lv1), labelOf(lv1)},
		{"no parts, cleared altogether", labelOf(lv3), labelOf(star), labelOf(star), labelOf(star)},
		{"no parts, less than it is cleared to", labelOf(lv0), labelOf(lv2), labelOf(star), labelOf(lv0)},
		{"the zero labels", impl.Label{}, impl.Label{Parts: []impl.Part{}}, impl.Label{}, impl.Label{}},

		{"the base a star in has", labelOf(star), top, labelOf(lv2), labelOf(star)},
		{"the base a star in has, eff is all there is", labelOf(star), top, top, labelOf(star)},
		{"the base a star in eff", labelOf(lv2), top, labelOf(star), labelOf(lv2)},
		{"the base a star in has, a part in has", labelOf(star, 5, lv1), top, labelOf(lv2), labelOf(star, 5, lv2)},
		{"the base a star in has, a part in has that is more", labelOf(star, 5, lv3), top, labelOf(lv2), labelOf(star, 5, lv3)},
		{"the base a star in has, a part in eff", labelOf(star), top, labelOf(lv1, 5, lv3), labelOf(star)},
		{"the base a star in has, a part in eff that is a star", labelOf(star), top, labelOf(lv1, 5, star), labelOf(star)},
		{"the base a star in has, a part in clear", labelOf(star), labelOf(lv3, 5, lv0), labelOf(lv2), labelOf(star)},
		{"the base a star in has, a part that is cleared away", labelOf(star, 5, lv3), labelOf(lv3, 5, star), labelOf(star), labelOf(star)},
		{"the base a star in has, a part cleared and brought", labelOf(star, 5, lv3), labelOf(lv3, 5, star), labelOf(star, 5, lv1), labelOf(star, 5, lv1)},
		{"the base a star in eff, a part in eff", labelOf(lv1), top, labelOf(star, 5, lv2), labelOf(lv1, 5, lv2)},
		{"the base a star in eff, a part in eff that is less", labelOf(lv1), top, labelOf(star, 5, lv0), labelOf(lv1)},
		{"the base a star in eff, a star in has", labelOf(lv1, 5, star), top, labelOf(star), labelOf(lv1, 5, star)},
		{"the base a star in clear", labelOf(lv2, 5, lv3), labelOf(star), labelOf(lv1), labelOf(lv1)},

		{"a star in has, eff is more", labelOf(lv1, 5, star), top, labelOf(lv1, 5, lv3), labelOf(lv1, 5, star)},
		{"a star in has, the base of eff is more", labelOf(lv1, 5, star), top, labelOf(lv2), labelOf(lv2, 5, star)},
		{"a star in has, what is told of the others is a star", labelOf(lv3, 5, star), labelOf(star), labelOf(star), labelOf(star)},
		{"a star in has, cleared or not", labelOf(lv1, 5, star), labelOf(lv3, 5, lv0), labelOf(lv0), labelOf(lv1, 5, star)},
		{"a star in eff is none in has", labelOf(lv1), top, labelOf(lv2, 5, star), labelOf(lv2, 5, lv1)},
		{"a star in clear is none in has", labelOf(lv1), labelOf(lv3, 5, star), labelOf(lv0), labelOf(lv1, 5, lv0)},
		{"a star in eff and in clear", labelOf(lv1), labelOf(lv3, 5, star), labelOf(lv0, 5, star), labelOf(lv1, 5, star)},
		{"a star in eff and in clear, of all others", labelOf(lv1, 5, lv2), labelOf(star, 5, lv3), labelOf(star, 5, lv0), labelOf(star, 5, lv2)},

		{"what clear takes away", labelOf(lv1, 5, lv3), labelOf(lv3, 5, star), labelOf(lv1), labelOf(lv1)},
		{"what clear takes away, but for eff", labelOf(lv1, 5, lv3), labelOf(lv3, 5, star), labelOf(lv1, 5, lv2), labelOf(lv1, 5, lv2)},
		{"what clear takes down", labelOf(lv1, 5, lv3), labelOf(lv3, 5, lv2), labelOf(lv1), labelOf(lv1, 5, lv2)},
		{"what clear leaves", labelOf(lv1, 5, lv2), labelOf(lv3), labelOf(lv1), labelOf(lv1, 5, lv2)},
		{"what eff brings", labelOf(lv1), top, labelOf(lv1, 5, lv2), labelOf(lv1, 5, lv2)},
		{"what eff brings, cleared or not", labelOf(lv1), labelOf(star), labelOf(lv1, 5, lv2), labelOf(lv1, 5, lv2)},
		{"what eff brings over what is there", labelOf(lv1, 5, lv2), top, labelOf(lv1, 5, lv3), labelOf(lv1, 5, lv3)},
		{"what eff brings under what is there", labelOf(lv1, 5, lv3), top, labelOf(lv1, 5, lv2), labelOf(lv1, 5, lv3)},

		{"all three have it", labelOf(lv1, 5, lv3), labelOf(lv3, 5, lv2), labelOf(lv1, 5, lv0), labelOf(lv1, 5, lv2)},
		{"all three have it, it comes out as the base", labelOf(lv1, 5, lv3), labelOf(lv3, 5, lv1), labelOf(lv0, 5, star), labelOf(lv1)},
		{"has and clear have it", labelOf(lv2, 5, lv3), labelOf(lv3, 5, lv0), labelOf(lv1), labelOf(lv2, 5, lv1)},
		{"has and eff have it", labelOf(lv2, 5, lv0), labelOf(lv3), labelOf(lv2, 5, lv1), labelOf(lv2, 5, lv1)},
		{"clear and eff have it", labelOf(lv2), labelOf(lv3, 5, lv0), labelOf(lv1, 5, lv3), labelOf(lv2, 5, lv3)},
		{"has alone has it", labelOf(lv2, 5, lv3), top, labelOf(lv1), labelOf(lv2, 5, lv3)},
		{"clear alone has it", labelOf(lv2), labelOf(lv3, 5, star), labelOf(lv1), labelOf(lv2, 5, lv1)},
		{"clear alone has it, more than its base", labelOf(lv2), labelOf(lv0, 5, lv3), labelOf(lv1), labelOf(lv1, 5, lv2)},
		{"eff alone has it, less than its base", labelOf(lv1), top, labelOf(lv2, 5, lv0), labelOf(lv2, 5, lv1)},
		{"each has one of its own", labelOf(lv1, 7, lv2), labelOf(lv3, 5, lv0), labelOf(lv0, 9, lv3), labelOf(lv1, 5, lv0, 7, lv2, 9, lv3)},
		{"each has one of its own, the other way round", labelOf(lv1, 5, lv2), labelOf(lv3, 9, lv0), labelOf(lv0, 7, lv3), labelOf(lv1, 5, lv2, 7, lv3, 9, lv0)},
		{"the ends of the handles", labelOf(lv1, 0, star, 999, lv2), top, labelOf(lv1, 0, lv3, 999, lv3), labelOf(lv1, 0, star, 999, lv3)},
		{"all of it", labelOf(lv1, 5, star, 7, lv3), labelOf(lv3, 7, lv0, 9, star), labelOf(lv1, 5, lv3, 8, lv2, 9, star), labelOf(lv1, 5, star, 8, lv2, 9, star)},
	} {
		checkTaint(t, c.name, c.has, c.clear, c.eff, c.wants, true)
	}
}

// TestTaintedOfEveryLevel has all levels of three bases, and of one handle in each place: 15625 of them.
func TestTaintedOfEveryLevel(t *testing.T) {
	labels := oneHandleLabels()
	for i, has := range labels {
		for j, clear := range labels {
			for k, eff := range labels {
				base := taintedLevel(int64(i/5), int64(j/5), int64(k/5))
				level := taintedLevel(int64(i%5), int64(j%5), int64(k%5))
				want := labelOf(base, 5, level)
				if level == base {
					want = labelOf(base)
				}
				checkTaint(t, "one handle", has, clear, eff, want, true)
			}
		}
	}
}

// TestTaintedOfEveryHandle holds the answers against tables of all handles; many of these labels have too many together.
func TestTaintedOfEveryHandle(t *testing.T) {
	told := map[bool]int{}
	mixedThrees(func(has, clear, eff impl.Label) {
		want, whether := wantedTaint(has, clear, eff)
		checkTaint(t, "mixed labels", has, clear, eff, want, whether)
		told[whether]++
	})
	if told[true] < 500 || told[false] < 500 {
		t.Errorf("%d are told and %d are not", told[true], told[false])
	}
}

// TestWhoIsTaintedKeepsHisStars asks what promise 4 says, by the other functions alone.
func TestWhoIsTaintedKeepsHisStars(t *testing.T) {
	told := 0
	mixedThrees(func(has, clear, eff impl.Label) {
		got, is := impl.Tainted(has, clear, eff)
		if !is {
			return
		}
		told++
		if !impl.LabelOk(got) {
			t.Errorf("Tainted(%v, %v, %v) = %v: it is not right", has, clear, eff, got)
		}
		stars, _ := impl.Stars(has)
		left, _ := impl.Stars(got)
		if !impl.AtMost(left, stars) || !impl.AtMost(got, stars) {
			t.Errorf("Tainted(%v, %v, %v) = %v: a star of his is gone", has, clear, eff, got)
		}
		// No mixed label names 777: it has the bases.
		for _, h := range slices.Concat(impl.HandlesOf(has, clear), impl.HandlesOf(eff, got), []int64{777}) {
			if impl.LevelOf(has, h) != star && impl.LevelOf(got, h) < impl.LevelOf(eff, h) {
				t.Fatalf("Tainted(%v, %v, %v) = %v: of handle %d it has not heard what came in", has, clear, eff, got, h)
			}
		}
		if whole, is := impl.Join(has, eff); is && !impl.AtMost(got, whole) {
			t.Errorf("Tainted(%v, %v, %v) = %v: it is more than both had", has, clear, eff, got)
		}
	})
	if told < 1000 {
		t.Errorf("only %d are told", told)
	}
}

// TestTaintedIsTheJoinOfTwoMeets has no more than four handles, so that nothing on the way has too many parts.
func TestTaintedIsTheJoinOfTwoMeets(t *testing.T) {
	labels := append(smallLabels(), labelOf(lv1, 2, star, 8, lv3), labelOf(star, 2, lv2, 8, lv0), labelOf(lv3, 2, lv0, 8, star))
	n := len(labels)
	for i, has := range labels {
		for j, clear := range labels {
			for k := range 8 {
				eff := labels[(3*i+5*j+16*k)%n]
				old, _ := impl.Meet(has, clear)
				stars, _ := impl.Stars(has)
				brought, _ := impl.Meet(eff, stars)
				want, is := impl.Join(old, brought)
				if !is {
					t.Fatalf("Join(%v, %v) is not told", old, brought)
				}
				checkTaint(t, "small labels", has, clear, eff, want, true)
			}
		}
	}
}

// TestTaintedAtMaxParts shares out just as many parts as there may be, and one more, over the three places in each way.
func TestTaintedAtMaxParts(t *testing.T) {
	for n := range int64(impl.MaxParts + 1) {
		for m := range int64(impl.MaxParts + 1) {
			for k := range int64(impl.MaxParts + 1) {
				clear, eff := apart(lv3, m, lv0, 500), apart(lv0, k, lv2, 900)
				for _, level := range []int64{star, lv0, lv2, lv3} {
					has := apart(lv1, n, level, 100)
					want, whether := joined(lv1, has, apart(lv1, m, lv0, 500), eff), true
					if n+m+k > 8 {
						want, whether = impl.Label{}, false
					}
					checkTaint(t, "parts of all three", has, clear, eff, want, whether)
				}
				lostClear, lostEff := apart(lv3, m, lv2, 500), apart(lv0, k, star, 900)
				has := apart(lv1, n, star, 100)
				checkTaint(t, "what clear and eff have comes out as the base", has, lostClear, lostEff, has, true)
				checkTaint(t, "the base a star, it stays so", apart(star, n, lv3, 100), apart(lv3, m, lv1, 500), eff, apart(star, n, lv3, 100), true)
			}
		}
	}
}

// TestTaintedOfMoreHandlesThanParts has up to 24 handles of all three, and counts those alone that don't come out as the base.
func TestTaintedOfMoreHandlesThanParts(t *testing.T) {
	for n := range int64(impl.MaxParts + 1) {
		for m := range int64(impl.MaxParts + 1) {
			has := apart(lv1, 8, lv3, 100)
			clear := joined(lv1, apart(lv1, 8-n, lv2, 100), apart(lv1, n, lv3, 300))
			eff := joined(lv0, apart(lv0, m, lv2, 500), apart(lv0, 8-m, star, 600))
			want, whether := joined(lv1, apart(lv1, 8-n, lv2, 100), apart(lv1, m, lv2, 500)), true
			if m > n {
				want, whether = impl.Label{}, false
			}
			checkTaint(t, "some of has are cleared, some of eff are brought", has, clear, eff, want, whether)
		}
		full := apart(lv2, 8, lv0, 300)
		cleared := joined(lv2, apart(lv2, n, lv0, 500), apart(lv2, 8-n, lv3, 600))
		checkTaint(t, "the Meet of has and clear has too many", full, cleared, labelOf(lv3), labelOf(lv3), true)
		checkTaint(t, "the Meet has too many, eff is full", full, cleared, apart(lv3, 8, lv2, 700), apart(lv3, 8, lv2, 700), true)
		owner := apart(lv3, 8, star, 100)
		brought := joined(lv1, apart(lv1, n, lv0, 500), apart(lv1, 8-n, lv2, 600))
		checkTaint(t, "the Meet of eff and the stars has too many", owner, labelOf(lv3), brought, owner, true)
	}
	checkTaint(t, "24 handles, all come out as the base", apart(lv1, 8, lv0, 100), apart(lv1, 8, lv2, 300), apart(lv1, 8, lv0, 500), labelOf(lv1), true)
	checkTaint(t, "24 handles, those of has are stars", apart(lv2, 8, star, 100), apart(lv3, 8, lv2, 300), apart(lv2, 8, lv0, 500), apart(lv2, 8, star, 100), true)
	checkTaint(t, "24 handles, those of clear are left", apart(lv3, 8, lv2, 100), apart(lv2, 8, lv3, 300), apart(lv1, 8, lv0, 500), apart(lv2, 8, lv3, 300), true)
	checkTaint(t, "24 handles, those of eff are left", apart(lv1, 8, lv0, 100), apart(lv3, 8, lv0, 300), apart(lv2, 8, lv1, 500), apart(lv2, 8, lv1, 500), true)
	checkTaint(t, "24 handles, all are left", apart(lv1, 8, lv0, 100), apart(lv3, 8, lv0, 300), apart(lv0, 8, lv2, 500), impl.Label{}, false)
}

// TestTaintedOfWhatIsNotRight has each wrong label in each place, beside right ones and beside other wrong ones.
func TestTaintedOfWhatIsNotRight(t *testing.T) {
	refused := func(name string, has, clear, eff impl.Label) {
		t.Helper()
		checkTaint(t, name, has, clear, eff, impl.Label{}, false)
	}
	for name, wrong := range wrongLabels() {
		for _, a := range rightLabels() {
			for _, b := range rightLabels() {
				refused(name+", in has", wrong, a, b)
				refused(name+", in clear", a, wrong, b)
				refused(name+", in eff", a, b, wrong)
			}
			refused(name+", in has and clear", wrong, wrong, a)
			refused(name+", in has and eff", wrong, a, wrong)
			refused(name+", in clear and eff", a, wrong, wrong)
		}
		for _, other := range wrongLabels() {
			refused(name+", beside others", wrong, other, wrong)
		}
		refused(name+", thrice", wrong, wrong, wrong)
	}
}

// TestArgumentsOfTaintStay calls everything with spare room behind the parts, in each place, and holds that room against a copy.
func TestArgumentsOfTaintStay(t *testing.T) {
	labels := anyLabels()
	for i, l := range labels {
		for j, other := range labels {
			has, hasRoom := heldLabel(l)
			clear, clearRoom := heldLabel(other)
			eff, effRoom := heldLabel(labels[(i+5*j)%len(labels)])
			rooms := [][]impl.Part{hasRoom, clearRoom, effRoom}
			copies := [][]impl.Part{slices.Clone(hasRoom), slices.Clone(clearRoom), slices.Clone(effRoom)}
			impl.Stars(has)
			impl.Tainted(has, clear, eff)
			impl.Tainted(eff, has, clear)
			impl.Tainted(has, has, has)
			for at, room := range rooms {
				if !slices.Equal(room, copies[at]) {
					t.Errorf("an argument was written into: %v, want %v", room, copies[at])
				}
			}
		}
	}
}

func TestStarsAreNewMemory(t *testing.T) {
	equal := 0
	for _, l := range append(rightLabels(), apart(lv3, 8, star, 10), apart(star, 8, lv3, 10), labelOf(lv3, 5, star)) {
		held, room := heldLabel(l)
		copied, want := slices.Clone(room), wantedStars(l)
		first, _ := impl.Stars(held)
		second, _ := impl.Stars(held)
		if len(l.Parts) > 0 && equalLabels(first, l) {
			equal++
		}
		spoil(second.Parts, spoiled)
		if !slices.Equal(room, copied) {
			t.Errorf("Stars(%v) shares memory with its argument", l)
		}
		spoil(room, spoiled)
		if !equalLabels(first, want) {
			t.Errorf("Stars(%v) shares memory with its argument or with another answer", l)
		}
	}
	if equal < 3 {
		t.Errorf("only %d answers equal their argument", equal)
	}
}

// TestTaintedIsNewMemory writes over one answer, and then over the arguments, and looks at all the rest; some answers equal each of the arguments.
func TestTaintedIsNewMemory(t *testing.T) {
	var equal [3]int
	labels := rightLabels()
	for _, a := range labels {
		for _, b := range labels {
			for _, c := range labels {
				arguments := []impl.Label{a, b, c}
				var held []impl.Label
				var rooms, copies [][]impl.Part
				for _, l := range arguments {
					h, room := heldLabel(l)
					held, rooms, copies = append(held, h), append(rooms, room), append(copies, slices.Clone(room))
				}
				first, is := impl.Tainted(held[0], held[1], held[2])
				second, _ := impl.Tainted(held[0], held[1], held[2])
				want := impl.Label{Base: first.Base, Parts: slices.Clone(first.Parts)}
				spoil(second.Parts, spoiled)
				for at, room := range rooms {
					if is && len(want.Parts) > 0 && equalLabels(want, arguments[at]) {
						equal[at]++
					}
					if !slices.Equal(room, copies[at]) {
						t.Fatalf("Tainted(%v, %v, %v) shares memory with an argument", a, b, c)
					}
					spoil(room, spoiled)
				}
				if !equalLabels(first, want) {
					t.Fatalf("Tainted(%v, %v, %v) shares memory with an argument or with another answer", a, b, c)
				}
			}
		}
	}
	if slices.Min(equal[:]) < 10 {
		t.Errorf("only %v answers equal the arguments", equal)
	}
}

// TestTaintedOfOneArgumentThrice gives the same memory in all places.
func TestTaintedOfOneArgumentThrice(t *testing.T) {
	for _, l := range rightLabels() {
		held, room := heldLabel(l)
		copied := slices.Clone(room)
		got, is := impl.Tainted(held, held, held)
		if !is || !equalLabels(got, l) {
			t.Errorf("Tainted(%v) thrice = %v, %v, want the same and true", l, got, is)
		}
		spoil(got.Parts, spoiled)
		if !slices.Equal(room, copied) {
			t.Errorf("Tainted(%v) thrice shares memory with its argument", l)
		}
	}
}
