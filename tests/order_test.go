package tests

import (
	"slices"
	"testing"

	"loop.example/g00805/impl"
)

// levelsOf is the table of a label that is right: the level of every handle there is.
func levelsOf(l impl.Label) []int64 {
	levels := slices.Repeat([]int64{l.Base}, impl.MaxHandle+1)
	for _, p := range l.Parts {
		levels[p.Handle] = p.Level
	}
	return levels
}

// labelOfTable is the label of a base and of a level for each handle; it may have too many parts.
func labelOfTable(base int64, levels []int64) impl.Label {
	l := impl.Label{Base: base}
	for h, level := range levels {
		if level != base {
			l.Parts = append(l.Parts, impl.Part{Handle: int64(h), Level: level})
		}
	}
	return l
}

// operation is Join or Meet, and what each is held against.
type operation struct {
	name  string
	of    func(a, b impl.Label) (impl.Label, bool)
	level func(a, b int64) int64
	// within: is a on the side of b on which the answer lies?
	within func(a, b impl.Label) bool
	// Beside the level 1 of another label, a part of the kept level stays, and one of the lost level comes out as 1.
	kept, lost int64
}

func operations() []operation {
	return []operation{
		{"Join", impl.Join, func(a, b int64) int64 { return max(a, b) }, func(a, b impl.Label) bool { return impl.AtMost(b, a) }, lv3, star},
		{"Meet", impl.Meet, func(a, b int64) int64 { return min(a, b) }, func(a, b impl.Label) bool { return impl.AtMost(a, b) }, star, lv3},
	}
}

// wanted is what the operation should answer, by the tables of both.
func (o operation) wanted(a, b impl.Label) (impl.Label, bool) {
	levels, other := levelsOf(a), levelsOf(b)
	for h := range levels {
		levels[h] = o.level(levels[h], other[h])
	}
	l := labelOfTable(o.level(a.Base, b.Base), levels)
	if len(l.Parts) > impl.MaxParts {
		return impl.Label{}, false
	}
	return l, true
}

func (o operation) check(t *testing.T, name string, a, b, want impl.Label, whether bool) {
	t.Helper()
	for _, pair := range [][2]impl.Label{{a, b}, {b, a}} {
		if got, is := o.of(pair[0], pair[1]); is != whether || !equalLabels(got, want) {
			t.Errorf("%s: %s(%v, %v) = %v, %v, want %v, %v", name, o.name, pair[0], pair[1], got, is, want, whether)
		}
	}
}

// smallLabels are all the labels with no parts but of the handles 5 and 9: 125 of them. The one of base b, and of levels m and n of these handles, stands at 25b + 5m + n.
func smallLabels() []impl.Label {
	all := []impl.Label{}
	for base := int64(star); base <= lv3; base++ {
		for m := int64(star); m <= lv3; m++ {
			for n := int64(star); n <= lv3; n++ {
				levels := slices.Repeat([]int64{base}, 10)
				levels[5], levels[9] = m, n
				all = append(all, labelOfTable(base, levels))
			}
		}
	}
	return all
}

func smallPlace(l impl.Label) int {
	levels := levelsOf(l)
	return int(25*l.Base + 5*levels[5] + levels[9])
}

// mixedLabels are right labels of each base and of each number of parts, many of them of the same handles; always the same ones.
func mixedLabels() []impl.Label {
	handles := []int64{0, 1, 4, 5, 6, 9, 10, 15, 20, 30, 500, 998, 999}
	all := rightLabels()
	turn := uint32(1)
	next := func(n uint32) int64 {
		turn = turn*1664525 + 1013904223
		return int64((turn >> 8) % n)
	}
	for i := range 90 {
		base := int64(i % 5)
		levels := slices.Repeat([]int64{base}, impl.MaxHandle+1)
		for range i / 5 % 9 {
			levels[handles[next(13)]] = next(5)
		}
		all = append(all, labelOfTable(base, levels))
	}
	return all
}

func TestMixedLabelsAreRight(t *testing.T) {
	counts := map[int]bool{}
	for _, l := range mixedLabels() {
		if !impl.LabelOk(l) {
			t.Errorf("%v is not right", l)
		}
		counts[len(l.Parts)] = true
	}
	if len(counts) != impl.MaxParts+1 {
		t.Errorf("they have %v parts, want each number up to MaxParts", counts)
	}
}

func TestAtMost(t *testing.T) {
	mid := labelOf(lv1, 5, star, 9, lv3)
	for _, c := range []struct {
		name string
		a, b impl.Label
		want bool
	}{
		{"alike", mid, mid, true},
		{"alike, no parts", labelOf(lv2), labelOf(lv2), true},
		{"the zero label and nil parts", impl.Label{}, impl.Label{Parts: []impl.Part{}}, true},
		{"a lesser base", labelOf(lv1), labelOf(lv2), true},
		{"a greater base", labelOf(lv2), labelOf(lv1), false},
		{"the least of all", labelOf(star), mid, true},
		{"the greatest of all", mid, labelOf(lv3), true},
		{"more than the least", mid, labelOf(star), false},
		{"less than the greatest", labelOf(lv3), mid, false},
		{"a part of the first alone, as much as the base", labelOf(lv1, 5, lv2), labelOf(lv2), true},
		{"a part of the first alone, less than the base", labelOf(lv1, 5, lv0), labelOf(lv1), true},
		{"a part of the first alone, more than the base", labelOf(lv1, 5, lv3), labelOf(lv2), false},
		{"a part of the second alone, as much as the base", labelOf(lv1), labelOf(lv2, 5, lv1), true},
		{"a part of the second alone, more than the base", labelOf(lv1), labelOf(lv1, 5, lv2), true},
		{"a part of the second alone, less than the base", labelOf(lv1), labelOf(lv2, 5, lv0), false},
		{"a part of the second alone, the star", labelOf(lv1), labelOf(lv1, 3, star), false},
		{"the first handle alone is more", labelOf(lv1, 0, lv3, 5, star), labelOf(lv2, 5, lv0, 999, lv3), false},
		{"the middle handle alone is more", labelOf(lv1, 0, lv0, 5, lv1, 999, lv0), labelOf(lv2, 5, lv0), false},
		{"the last handle alone is more", labelOf(lv1, 5, star, 999, lv3), labelOf(lv2, 0, lv3, 5, lv0), false},
		{"the same handle is more in one, less in the other", labelOf(lv1, 5, lv3, 9, star), labelOf(lv1, 5, lv2, 9, lv0), false},
		{"the bases alone are more", labelOf(lv2, 5, star, 9, lv0), labelOf(lv1, 5, lv3, 9, lv3), false},
		{"parts of each between the other's", labelOf(lv1, 1, star, 3, lv0, 5, star), labelOf(lv1, 2, lv2, 4, lv3, 6, lv2), true},
		{"parts of each between the other's, one less", labelOf(lv1, 1, star, 3, lv0, 5, star), labelOf(lv1, 2, lv2, 4, lv0, 6, lv2), false},
		{"as many parts, other handles", labelOf(lv1, 5, lv2), labelOf(lv1, 6, lv2), false},
	} {
		if got := impl.AtMost(c.a, c.b); got != c.want {
			t.Errorf("%s: AtMost(%v, %v) = %v, want %v", c.name, c.a, c.b, got, c.want)
		}
	}
}

// TestAtMostOfTheBasesThemselves has parts on every handle that is named, each of them at most the other's; the bases are not.
func TestAtMostOfTheBasesThemselves(t *testing.T) {
	for high := int64(lv0); high <= lv3; high++ {
		for low := int64(star); low < high; low++ {
			for n := range int64(impl.MaxParts + 1) {
				a, b := impl.Plain(high), impl.Plain(low)
				for h := range n {
					a.Parts = append(a.Parts, impl.Part{Handle: h, Level: low})
					b.Parts = append(b.Parts, impl.Part{Handle: h, Level: high})
				}
				if !impl.LabelOk(a) || !impl.LabelOk(b) {
					t.Fatalf("%v or %v is not right", a, b)
				}
				if impl.AtMost(a, b) {
					t.Errorf("AtMost(%v, %v) = true, want false", a, b)
				}
			}
		}
	}
}

// TestAtMostOfOneHandleThatIsMore tries each handle of full labels for the one that is more, on either side.
func TestAtMostOfOneHandleThatIsMore(t *testing.T) {
	a, b := fullLabel(), fullLabel()
	for i := range b.Parts {
		a.Parts[i].Level = lv0
		b.Parts[i].Handle += 5
	}
	if !impl.AtMost(a, b) {
		t.Fatalf("AtMost(%v, %v) = false, want true", a, b)
	}
	for i := range a.Parts {
		for _, level := range []int64{lv2, lv3} {
			more := labelOfTable(a.Base, levelsOf(a))
			more.Parts[i].Level = level
			if impl.AtMost(more, b) {
				t.Errorf("AtMost(%v, %v) = true, want false", more, b)
			}
		}
		for _, level := range []int64{star, lv0} {
			less := labelOfTable(b.Base, levelsOf(b))
			less.Parts[i].Level = level
			if impl.AtMost(a, less) {
				t.Errorf("AtMost(%v, %v) = true, want false", a, less)
			}
		}
	}
}

func TestAtMostOfEveryHandle(t *testing.T) {
	labels := mixedLabels()
	yes := 0
	for _, a := range labels {
		levels := levelsOf(a)
		for _, b := range labels {
			other, want := levelsOf(b), true
			for h := range levels {
				want = want && levels[h] <= other[h]
			}
			if want {
				yes++
			}
			if got := impl.AtMost(a, b); got != want {
				t.Errorf("AtMost(%v, %v) = %v, want %v", a, b, got, want)
			}
		}
	}
	if yes < 2*len(labels) {
		t.Errorf("only %d pairs are at most each other", yes)
	}
}

func TestAtMostOfWhatIsNotRight(t *testing.T) {
	for name, wrong := range wrongLabels() {
		for _, l := range rightLabels() {
			if impl.AtMost(wrong, l) || impl.AtMost(l, wrong) {
				t.Errorf("%s: AtMost of it and %v = true, want false", name, l)
			}
		}
		for other, more := range wrongLabels() {
			if impl.AtMost(wrong, more) {
				t.Errorf("%s: AtMost of it and of what has %s = true, want false", name, other)
			}
		}
		if impl.AtMost(wrong, wrong) {
			t.Errorf("%s: AtMost of it and itself = true, want false", name)
		}
	}
}

// relationOf tells of each pair whether AtMost holds of it.
func relationOf(labels []impl.Label) [][]bool {
	holds := make([][]bool, len(labels))
	for i, a := range labels {
		for _, b := range labels {
			holds[i] = append(holds[i], impl.AtMost(a, b))
		}
	}
	return holds
}

func TestAtMostIsAnOrder(t *testing.T) {
	for _, labels := range [][]impl.Label{smallLabels(), mixedLabels()} {
		holds := relationOf(labels)
		for i, a := range labels {
			if !holds[i][i] {
				t.Errorf("%v is not at most itself", a)
			}
			for j, b := range labels {
				if holds[i][j] && holds[j][i] && !equalLabels(a, b) {
					t.Errorf("%v and %v are at most each other", a, b)
				}
				for k, c := range labels {
					if holds[i][j] && holds[j][k] && !holds[i][k] {
						t.Errorf("%v is at most %v, which is at most %v, but it isn't at most that", a, b, c)
					}
				}
			}
		}
	}
}

func TestJoinAndMeet(t *testing.T) {
	for _, c := range []struct {
		name             string
		a, b, join, meet impl.Label
	}{
		{"no parts", labelOf(lv0), labelOf(lv2), labelOf(lv2), labelOf(lv0)},
		{"the zero label", impl.Label{}, impl.Label{}, labelOf(star), labelOf(star)},
		{"alike", labelOf(lv1, 5, star, 9, lv3), labelOf(lv1, 5, star, 9, lv3), labelOf(lv1, 5, star, 9, lv3), labelOf(lv1, 5, star, 9, lv3)},
		{"handles of both and of one", labelOf(lv1, 5, star, 9, lv3), labelOf(lv2, 5, lv0, 7, star), labelOf(lv2, 5, lv0, 7, lv1, 9, lv3), labelOf(lv1, 5, star, 7, star, 9, lv2)},
		{"a handle of one, more than both bases", labelOf(lv1, 5, lv3), labelOf(lv2), labelOf(lv2, 5, lv3), labelOf(lv1, 5, lv2)},
		{"a handle of one, less than both bases", labelOf(lv2, 5, star), labelOf(lv1), labelOf(lv2, 5, lv1), labelOf(lv1, 5, star)},
		{"a handle of one, between the bases", labelOf(lv0, 5, lv1), labelOf(lv3), labelOf(lv3), labelOf(lv0, 5, lv1)},
		{"a handle of one, between the bases the other way", labelOf(lv3, 5, lv1), labelOf(lv0), labelOf(lv3, 5, lv1), labelOf(lv0)},
		{"a handle of one, the other's base", labelOf(lv0, 5, lv2), labelOf(lv2), labelOf(lv2), labelOf(lv0, 5, lv2)},
		{"a handle of both, that comes out as the base", labelOf(lv1, 5, lv3), labelOf(lv3, 5, lv0), labelOf(lv3), labelOf(lv1, 5, lv0)},
		{"a handle of both, that comes out as the lesser base", labelOf(lv1, 5, lv3), labelOf(lv3, 5, lv1), labelOf(lv3), labelOf(lv1)},
		{"a handle of both, that neither has as its base", labelOf(lv2, 5, lv1), labelOf(lv2, 5, lv3), labelOf(lv2, 5, lv3), labelOf(lv2, 5, lv1)},
		{"the star and the level 3", labelOf(star, 0, lv3), labelOf(lv3, 0, star), labelOf(lv3), labelOf(star)},
		{"the ends of the handles", labelOf(lv1, 0, lv2), labelOf(lv1, 999, lv0), labelOf(lv1, 0, lv2), labelOf(lv1, 999, lv0)},
		{"each between the other's", labelOf(lv1, 1, lv2, 3, lv0, 5, lv2), labelOf(lv1, 2, lv0, 4, lv2, 6, lv0), labelOf(lv1, 1, lv2, 4, lv2, 5, lv2), labelOf(lv1, 2, lv0, 3, lv0, 6, lv0)},
		{"one ahead of the other", labelOf(star, 7, lv1, 9, lv3), labelOf(star, 2, lv2), labelOf(star, 2, lv2, 7, lv1, 9, lv3), labelOf(star)},
	} {
		operations()[0].check(t, c.name, c.a, c.b, c.join, true)
		operations()[1].check(t, c.name, c.a, c.b, c.meet, true)
	}
}

// TestJoinAndMeetOfEveryHandle holds the answers against tables of all handles; some of these labels have too many together.
func TestJoinAndMeetOfEveryHandle(t *testing.T) {
	for _, o := range operations() {
		told := map[bool]int{}
		for _, a := range mixedLabels() {
			for _, b := range mixedLabels() {
				want, whether := o.wanted(a, b)
				o.check(t, "mixed labels", a, b, want, whether)
				told[whether]++
			}
		}
		if told[true] < 50 || told[false] < 50 {
			t.Errorf("%s: %d pairs are told and %d are not", o.name, told[true], told[false])
		}
	}
}

// TestJoinIsTheLeastMeetTheGreatest looks, among all small labels, for one that is on the same side of both and nearer than the answer.
func TestJoinIsTheLeastMeetTheGreatest(t *testing.T) {
	labels := smallLabels()
	for i, l := range labels {
		if smallPlace(l) != i || !impl.LabelOk(l) {
			t.Fatalf("%v stands at %d", l, i)
		}
	}
	for _, o := range operations() {
		within := make([][]bool, len(labels))
		for i, a := range labels {
			for _, b := range labels {
				within[i] = append(within[i], o.within(a, b))
			}
		}
		for i, a := range labels {
			for j, b := range labels {
				got, is := o.of(a, b)
				if !is || !impl.LabelOk(got) {
					t.Fatalf("%s(%v, %v) = %v, %v", o.name, a, b, got, is)
				}
				at := smallPlace(got)
				if !equalLabels(got, labels[at]) || !within[at][i] || !within[at][j] {
					t.Errorf("%s(%v, %v) = %v: it is not on its side of both", o.name, a, b, got)
				}
				for k, c := range labels {
					if within[k][i] && within[k][j] && !within[k][at] {
						t.Errorf("%s(%v, %v) = %v, but %v is so, too, and nearer", o.name, a, b, got, c)
					}
				}
			}
		}
	}
}

// TestJoinAndMeetAmongMixedLabels asks the same of labels with other handles and more parts.
func TestJoinAndMeetAmongMixedLabels(t *testing.T) {
	labels := mixedLabels()
	for _, o := range operations() {
		asked := 0
		for i, a := range labels {
			for _, b := range labels[i:] {
				got, is := o.of(a, b)
				if !is {
					continue
				}
				if !impl.LabelOk(got) || !o.within(got, a) || !o.within(got, b) {
					t.Errorf("%s(%v, %v) = %v: it is not right, or not on its side of both", o.name, a, b, got)
				}
				for _, c := range labels {
					if !o.within(c, a) || !o.within(c, b) {
						continue
					}
					asked++
					if !o.within(c, got) {
						t.Errorf("%s(%v, %v) = %v, but %v is so, too, and nearer", o.name, a, b, got, c)
					}
				}
			}
		}
		if asked < 1000 {
			t.Errorf("%s: only %d labels were asked", o.name, asked)
		}
	}
}

// apart makes a label of that base with so many parts of that level, from that handle on.
func apart(base int64, n int64, level int64, from int64) impl.Label {
	l := impl.Label{Base: base}
	for i := range n {
		l.Parts = append(l.Parts, impl.Part{Handle: from + i, Level: level})
	}
	return l
}

// joined puts the parts of labels behind each other, whose handles rise.
func joined(base int64, labels ...impl.Label) impl.Label {
	l := impl.Label{Base: base}
	for _, one := range labels {
		l.Parts = append(l.Parts, one.Parts...)
	}
	return l
}

// TestJoinAndMeetAtMaxParts shares out just as many parts as there may be, and one more, in each way.
func TestJoinAndMeetAtMaxParts(t *testing.T) {
	for _, o := range operations() {
		for n := range int64(impl.MaxParts + 1) {
			for m := range int64(impl.MaxParts + 1) {
				a, b := apart(lv1, n, o.kept, 100), apart(lv1, m, o.kept, 500)
				want, whether := joined(lv1, a, b), true
				if n+m > 8 {
					want, whether = impl.Label{}, false
				}
				o.check(t, "kept of both", a, b, want, whether)
				o.check(t, "kept of one, lost of the other", a, apart(lv1, m, o.lost, 500), a, true)
				o.check(t, "lost of both", apart(lv1, n, o.lost, 100), apart(lv1, m, o.lost, 500), labelOf(lv1), true)
			}
		}
	}
}

// TestJoinAndMeetOfMoreHandlesThanParts has sixteen handles of both; as many as are lost of the second are not counted.
func TestJoinAndMeetOfMoreHandlesThanParts(t *testing.T) {
	for _, o := range operations() {
		for n := range int64(impl.MaxParts + 1) {
			for m := range int64(impl.MaxParts + 1) {
				a := joined(lv1, apart(lv1, n, o.kept, 100), apart(lv1, 8-n, o.lost, 200))
				b := joined(lv1, apart(lv1, 8-m, o.lost, 300), apart(lv1, m, o.kept, 400))
				want, whether := joined(lv1, apart(lv1, n, o.kept, 100), apart(lv1, m, o.kept, 400)), true
				if n+m > 8 {
					want, whether = impl.Label{}, false
				}
				o.check(t, "sixteen handles", a, b, want, whether)
			}
		}
	}
}

func TestJoinAndMeetOfManyHandlesAndANewBase(t *testing.T) {
	join, meet := operations()[0], operations()[1]
	a, b := apart(lv1, 8, lv2, 10), apart(lv2, 8, lv3, 500)
	join.check(t, "the first's parts are the new base", a, b, b, true)
	meet.check(t, "the second's parts are the new base", a, b, a, true)
	a, b = apart(lv1, 8, lv3, 10), apart(lv2, 1, lv3, 500)
	join.check(t, "one more part, the bases apart", a, b, impl.Label{}, false)
	meet.check(t, "a part of the lesser base", a, b, apart(lv1, 8, lv2, 10), true)
	join.check(t, "full ones of the same handles", apart(lv1, 8, lv2, 10), apart(lv1, 8, lv3, 10), apart(lv1, 8, lv3, 10), true)
	meet.check(t, "full ones of the same handles", apart(lv1, 8, lv0, 10), apart(lv1, 8, star, 10), apart(lv1, 8, star, 10), true)
	join.check(t, "full, and the least of all", fullLabel(), labelOf(star), fullLabel(), true)
	meet.check(t, "full, and the greatest of all", fullLabel(), labelOf(lv3), fullLabel(), true)
	join.check(t, "full, and the greatest of all", fullLabel(), labelOf(lv3), labelOf(lv3), true)
	meet.check(t, "full, and the least of all", fullLabel(), labelOf(star), labelOf(star), true)
}

func TestJoinAndMeetOfWhatIsNotRight(t *testing.T) {
	for _, o := range operations() {
		for name, wrong := range wrongLabels() {
			for _, l := range rightLabels() {
				o.check(t, name, wrong, l, impl.Label{}, false)
			}
			for _, other := range wrongLabels() {
				o.check(t, name, wrong, other, impl.Label{}, false)
			}
			o.check(t, name, wrong, wrong, impl.Label{}, false)
		}
	}
}

// TestArgumentsOfTheOrderStay calls everything with spare room behind the parts, on either side, and holds that room against a copy.
func TestArgumentsOfTheOrderStay(t *testing.T) {
	labels := anyLabels()
	for _, l := range labels {
		for _, other := range labels {
			left, leftRoom := heldLabel(l)
			right, rightRoom := heldLabel(other)
			leftCopy, rightCopy := slices.Clone(leftRoom), slices.Clone(rightRoom)
			impl.AtMost(left, right)
			impl.Join(left, right)
			impl.Meet(left, right)
			impl.AtMost(left, left)
			impl.Join(left, left)
			impl.Meet(left, left)
			if !slices.Equal(leftRoom, leftCopy) || !slices.Equal(rightRoom, rightCopy) {
				t.Errorf("an argument was written into: %v, %v, want %v, %v", leftRoom, rightRoom, leftCopy, rightCopy)
			}
		}
	}
}

// TestAnswersOfTheOrderAreNewMemory writes over one answer, and then over the arguments, and looks at all the rest; many of these answers equal an argument.
func TestAnswersOfTheOrderAreNewMemory(t *testing.T) {
	for _, o := range operations() {
		equal := 0
		for _, a := range rightLabels() {
			for _, b := range append(rightLabels(), a) {
				left, leftRoom := heldLabel(a)
				right, rightRoom := heldLabel(b)
				leftCopy, rightCopy := slices.Clone(leftRoom), slices.Clone(rightRoom)
				first, is := o.of(left, right)
				second, _ := o.of(left, right)
				want := impl.Label{Base: first.Base, Parts: slices.Clone(first.Parts)}
				if is && len(want.Parts) > 0 && (equalLabels(want, a) || equalLabels(want, b)) {
					equal++
				}
				spoil(second.Parts, spoiled)
				if !slices.Equal(leftRoom, leftCopy) || !slices.Equal(rightRoom, rightCopy) {
					t.Fatalf("%s(%v, %v) shares memory with an argument", o.name, a, b)
				}
				spoil(leftRoom, spoiled)
				spoil(rightRoom, spoiled)
				if !equalLabels(first, want) {
					t.Fatalf("%s(%v, %v) shares memory with an argument or with another answer", o.name, a, b)
				}
			}
		}
		if equal < 10 {
			t.Errorf("%s: only %d answers equal an argument", o.name, equal)
		}
	}
}

// TestAnswersOfOneArgumentTwice gives the same memory on both sides.
func TestAnswersOfOneArgumentTwice(t *testing.T) {
	for _, o := range operations() {
		for _, l := range rightLabels() {
			held, room := heldLabel(l)
			copied := slices.Clone(room)
			got, is := o.of(held, held)
			if !is || !equalLabels(got, l) {
				t.Errorf("%s(%v, %v) = %v, %v, want the same and true", o.name, l, l, got, is)
			}
			spoil(got.Parts, spoiled)
			if !slices.Equal(room, copied) {
				t.Errorf("%s(%v, %v) shares memory with its argument", o.name, l, l)
			}
		}
	}
}
