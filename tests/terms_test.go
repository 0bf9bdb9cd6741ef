package tests

import (
	"slices"
	"testing"

	"loop.example/g00805/impl"
)

// termsOf has those that are asked for; what it doesn't name is of NoTerms.
func termsOf(clear, raise impl.Label) impl.Terms {
	return impl.Terms{Clear: clear, Raise: raise, Verify: labelOf(lv3)}
}

// termsPlaces are the four labels of a Terms, by name.
func termsPlaces(t *impl.Terms) map[string]*impl.Label {
	return map[string]*impl.Label{"Taint": &t.Taint, "Clear": &t.Clear, "Raise": &t.Raise, "Verify": &t.Verify}
}

// rightTerms are some that are right, with no parts, with few and with as many as there may be.
func rightTerms() []impl.Terms {
	full := fullLabel()
	all := []impl.Terms{
		{},
		impl.NoTerms(),
		termsOf(labelOf(lv3, 5, lv0), labelOf(star, 9, lv2)),
		{Taint: full, Clear: full, Raise: full, Verify: full},
	}
	for _, l := range rightLabels() {
		all = append(all, impl.Terms{Taint: l, Clear: l, Raise: l, Verify: l})
	}
	return all
}

// lacks tells whether one who has the level must own what is cleared and raised so, and doesn't.
func lacks(send, clear, raise int64) bool {
	return send != star && (clear < lv3 || raise > star)
}

// wantedAllowed holds the tables of all handles against each other, and the Bases.
func wantedAllowed(send, clear, raise impl.Label) bool {
	levels, cleared, raised := levelsOf(send), levelsOf(clear), levelsOf(raise)
	for h := range levels {
		if lacks(levels[h], cleared[h], raised[h]) {
			return false
		}
	}
	return !lacks(send.Base, clear.Base, raise.Base)
}

func checkAllowed(t *testing.T, name string, send, clear, raise impl.Label, want bool) {
	t.Helper()
	if got := impl.Allowed(send, termsOf(clear, raise)); got != want {
		t.Errorf("%s: Allowed(%v, Clear %v, Raise %v) = %v, want %v", name, send, clear, raise, got, want)
	}
}

func TestTermsOk(t *testing.T) {
	if !impl.TermsOk(impl.Terms{}) {
		t.Error("TermsOk of the zero Terms = false, want true")
	}
	for _, terms := range rightTerms() {
		if !impl.TermsOk(terms) {
			t.Errorf("TermsOk(%v) = false, want true", terms)
		}
		for name := range termsPlaces(&terms) {
			for _, l := range anyLabels() {
				other := terms
				*termsPlaces(&other)[name] = l
				if got, want := impl.TermsOk(other), impl.LabelOk(l); got != want {
					t.Errorf("%s is %v: TermsOk = %v, want %v", name, l, got, want)
				}
			}
		}
	}
}

func TestTermsOkOfSeveralThatAreNotRight(t *testing.T) {
	for name, wrong := range wrongLabels() {
		for places := 1; places < 16; places++ {
			four := [4]impl.Label{}
			for i := range four {
				if places>>i&1 == 1 {
					four[i] = wrong
				}
			}
			if impl.TermsOk(impl.Terms{Taint: four[0], Clear: four[1], Raise: four[2], Verify: four[3]}) {
				t.Errorf("%s, in the places %b: TermsOk = true, want false", name, places)
			}
		}
	}
}

func TestNoTerms(t *testing.T) {
	n := impl.NoTerms()
	for name, want := range map[string]impl.Label{"Taint": labelOf(star), "Clear": labelOf(lv3), "Raise": labelOf(star), "Verify": labelOf(lv3)} {
		if got := *termsPlaces(&n)[name]; !equalLabels(got, want) {
			t.Errorf("%s of NoTerms is %v, want %v", name, got, want)
		}
	}
	if !impl.TermsOk(n) {
		t.Error("NoTerms are not right")
	}
	for _, l := range mixedLabels() {
		if !impl.Allowed(l, n) {
			t.Errorf("Allowed(%v, NoTerms) = false, want true", l)
		}
	}
}

// TestNoTermsAreNewMemory writes over one answer, its spare room and all, and looks at another one.
func TestNoTermsAreNewMemory(t *testing.T) {
	first, second := impl.NoTerms(), impl.NoTerms()
	for _, l := range termsPlaces(&second) {
		spoil(l.Parts, spoiled)
		l.Parts = append(l.Parts, spoiled)
		l.Base = -7
	}
	third := impl.NoTerms()
	for _, n := range []impl.Terms{first, third} {
		for name, want := range map[string]int64{"Taint": star, "Clear": lv3, "Raise": star, "Verify": lv3} {
			if l := *termsPlaces(&n)[name]; !equalLabels(l, labelOf(want)) || slices.Contains(l.Parts[:cap(l.Parts)], spoiled) {
				t.Errorf("%s shares memory with another answer: %v", name, l)
			}
		}
	}
}

func TestNoTermsShareNoMemoryAmongThem(t *testing.T) {
	n := impl.NoTerms()
	for name, l := range termsPlaces(&n) {
		spoil(l.Parts, spoiled)
		for other, o := range termsPlaces(&n) {
			if other != name && slices.Contains(o.Parts[:cap(o.Parts)], spoiled) {
				t.Errorf("%s shares memory with %s", name, other)
			}
		}
		spoil(l.Parts, impl.Part{})
	}
}

func TestAllowed(t *testing.T) {
	top, none := labelOf(lv3), labelOf(star)
	owner, all := labelOf(lv1, 5, star), labelOf(star)
	allButOne := labelOf(star, 5, lv0)
	for _, c := range []struct {
		name               string
		send, clear, raise impl.Label
		want               bool
	}{
		{"nothing is asked for, he owns nothing", labelOf(lv1), top, none, true},
		{"nothing is asked for, he owns one", owner, top, none, true},
		{"nothing is asked for, he owns all", all, top, none, true},
		{"nothing is asked for, he has heard of all", labelOf(lv3), top, none, true},

		{"his own is cleared", owner, labelOf(lv3, 5, lv0), none, true},
		{"his own is cleared altogether", owner, labelOf(lv3, 5, star), none, true},
		{"his own is cleared by one level", owner, labelOf(lv3, 5, lv2), none, true},
		{"his own is raised", owner, top, labelOf(star, 5, lv2), true},
		{"his own is raised altogether", owner, top, labelOf(star, 5, lv3), true},
		{"his own is raised by one level", owner, top, labelOf(star, 5, lv0), true},
		{"his own is cleared and raised", owner, labelOf(lv3, 5, lv0), labelOf(star, 5, lv3), true},
		{"another one is cleared", owner, labelOf(lv3, 6, lv0), none, false},
		{"another one is cleared by one level", owner, labelOf(lv3, 6, lv2), none, false},
		{"another one is raised", owner, top, labelOf(star, 6, lv3), false},
		{"another one is raised by one level", owner, top, labelOf(star, 6, lv0), false},
		{"his own and another one are cleared", owner, labelOf(lv3, 5, lv0, 6, lv0), none, false},
		{"another one and his own are cleared", owner, labelOf(lv3, 4, lv0, 5, lv0), none, false},
		{"his own and another one are raised", owner, top, labelOf(star, 5, lv0, 6, lv0), false},
		{"another one and his own are raised", owner, top, labelOf(star, 4, lv0, 5, lv0), false},
		{"his own is cleared, another one is raised", owner, labelOf(lv3, 5, lv0), labelOf(star, 6, lv1), false},
		{"another one is cleared, his own is raised", owner, labelOf(lv3, 6, lv0), labelOf(star, 5, lv1), false},
		{"two of his own, one is cleared, one is raised", labelOf(lv1, 5, star, 6, star), labelOf(lv3, 5, lv0), labelOf(star, 6, lv1), true},
		{"the ends of the handles", labelOf(lv1, 0, star, 999, star), labelOf(lv3, 0, lv0, 999, lv1), labelOf(star, 0, lv1, 999, lv3), true},
		{"the first handle alone is his", labelOf(lv1, 0, star), labelOf(lv3, 0, lv0, 999, lv1), none, false},
		{"the last handle alone is his", labelOf(lv1, 999, star), top, labelOf(star, 0, lv1, 999, lv3), false},

		{"all others' are his, one of them is cleared", all, labelOf(lv3, 5, lv0), none, true},
		{"all others' are his, one of them is raised", all, top, labelOf(star, 5, lv0), true},
		{"all but one are his, another one is cleared", allButOne, labelOf(lv3, 6, lv0), none, true},
		{"all but one are his, another one is raised", allButOne, top, labelOf(star, 6, lv0), true},
		{"all but one are his, that one is cleared", allButOne, labelOf(lv3, 5, lv0), none, false},
		{"all but one are his, that one is raised", allButOne, top, labelOf(star, 5, lv0), false},
		{"not named, and his Base is no star, cleared", labelOf(lv0), labelOf(lv3, 5, lv0), none, false},
		{"not named, and his Base is no star, raised", labelOf(lv0), top, labelOf(star, 5, lv0), false},

		{"the Base is cleared, all is his", all, labelOf(lv2), none, true},
		{"the Base is cleared altogether, all is his", all, labelOf(star), none, true},
		{"the Base is raised, all is his", all, top, labelOf(lv0), true},
		{"the Base is raised altogether, all is his", all, top, labelOf(lv3), true},
		{"both Bases, all is his", all, labelOf(star), labelOf(lv3), true},
		{"the Base is cleared, he owns nothing", labelOf(lv0), labelOf(lv2), none, false},
		{"the Base is raised, he owns nothing", labelOf(lv0), top, labelOf(lv0), false},
		{"the Base is cleared, he owns one", owner, labelOf(lv2), none, false},
		{"the Base is raised, he owns one", owner, top, labelOf(lv0), false},
		{"the Base is cleared, all but one are his", allButOne, labelOf(lv2), none, false},
		{"the Base is raised, all but one are his", allButOne, top, labelOf(lv0), false},
		{"the Base is cleared, but not of the one that is not his", allButOne, labelOf(lv2, 5, lv3), none, true},
		{"the Base is raised, but not of the one that is not his", allButOne, top, labelOf(lv0, 5, star), true},
		{"the Base is cleared, but not of another one", allButOne, labelOf(lv2, 6, lv3), none, false},
		{"the Base is raised, but not of another one", allButOne, top, labelOf(lv0, 6, star), false},
		{"the Base is cleared, the one that is not his to another level", allButOne, labelOf(lv2, 5, lv1), none, false},
		{"the Base is raised, the one that is not his to another level", allButOne, top, labelOf(lv0, 5, lv1), false},
		{"the Base is cleared, but of the one that is not his it is raised", allButOne, labelOf(lv2, 5, lv3), labelOf(star, 5, lv0), false},
		{"the Base is raised, but of the one that is not his it is cleared", allButOne, labelOf(lv3, 5, lv2), labelOf(lv0, 5, star), false},
		{"both Bases, but nothing of the one that is not his", allButOne, labelOf(lv1, 5, lv3), labelOf(lv1, 5, star), true},
		{"the Base is cleared, but of what is named; that is his, the others not", labelOf(lv1, 5, star), labelOf(lv2, 5, lv3), none, false},
		{"the Base is raised, but of what is named; that is his, the others not", labelOf(lv1, 5, star), top, labelOf(lv0, 5, star), false},
	} {
		checkAllowed(t, c.name, c.send, c.clear, c.raise, c.want)
		if want := wantedAllowed(c.send, c.clear, c.raise); want != c.want {
			t.Errorf("%s: the tables tell %v", c.name, want)
		}
	}
}

// TestAllowedOfEveryLevel has all levels of three bases, and of one handle in each place: 15625 of them.
func TestAllowedOfEveryLevel(t *testing.T) {
	labels := oneHandleLabels()
	for i, send := range labels {
		for j, clear := range labels {
			for k, raise := range labels {
				want := !lacks(int64(i/5), int64(j/5), int64(k/5)) && !lacks(int64(i%5), int64(j%5), int64(k%5))
				checkAllowed(t, "one handle", send, clear, raise, want)
			}
		}
	}
}

// TestAllowedAtEachHandle has each handle in turn named, so that what is asked of the Bases can't be asked at any one handle.
func TestAllowedAtEachHandle(t *testing.T) {
	for h := range int64(impl.MaxHandle + 1) {
		owner, allButOne := labelOf(lv1, h, star), labelOf(star, h, lv1)
		checkAllowed(t, "his own is cleared", owner, labelOf(lv3, h, lv0), labelOf(star), true)
		checkAllowed(t, "his own is raised", owner, labelOf(lv3), labelOf(star, h, lv0), true)
		checkAllowed(t, "the one that is not his is cleared", allButOne, labelOf(lv3, h, lv0), labelOf(star), false)
		checkAllowed(t, "the one that is not his is raised", allButOne, labelOf(lv3), labelOf(star, h, lv0), false)
		checkAllowed(t, "all others are cleared, which are not his", owner, labelOf(lv2, h, lv3), labelOf(star), false)
		checkAllowed(t, "all others are raised, which are not his", owner, labelOf(lv3), labelOf(lv0, h, star), false)
		checkAllowed(t, "all others are cleared, which are his", allButOne, labelOf(lv2, h, lv3), labelOf(star), true)
		checkAllowed(t, "all others are raised, which are his", allButOne, labelOf(lv3), labelOf(lv0, h, star), true)
	}
}

// TestAllowedOfTwoHandles has all labels of the handles 5 and 9 for send and for one of the two, beside a few of the other.
func TestAllowedOfTwoHandles(t *testing.T) {
	labels, few := smallLabels(), []impl.Label{labelOf(star), labelOf(lv3), labelOf(star, 9, lv2), labelOf(lv3, 5, lv0), labelOf(lv1, 5, star), labelOf(lv0, 9, lv3)}
	told := map[bool]int{}
	check := func(send, clear, raise impl.Label) {
		want := !lacks(send.Base, clear.Base, raise.Base)
		for _, h := range []int64{5, 9} {
			want = want && !lacks(impl.LevelOf(send, h), impl.LevelOf(clear, h), impl.LevelOf(raise, h))
		}
		checkAllowed(t, "two handles", send, clear, raise, want)
		told[want]++
	}
	for _, send := range labels {
		for _, l := range labels {
			for _, other := range few {
				check(send, l, other)
				check(send, other, l)
			}
		}
	}
	if told[true] < 1000 || told[false] < 1000 {
		t.Errorf("%d are allowed and %d are not", told[true], told[false])
	}
}

// ofHisOwn is the label where send has the star, and that level everywhere else; it may have too many parts.
func ofHisOwn(send, l impl.Label, level int64) impl.Label {
	stars, levels, base := levelsOf(send), levelsOf(l), l.Base
	for h := range levels {
		if stars[h] != star {
			levels[h] = level
		}
	}
	if send.Base != star {
		base = level
	}
	return labelOfTable(base, levels)
}

// TestAllowedOfEveryHandle holds the answers against tables of all handles; what is cleared and raised is kept to his own in one case, and then is more than that at one handle.
func TestAllowedOfEveryHandle(t *testing.T) {
	told := map[bool]int{}
	labels := mixedLabels()
	check := func(send, clear, raise impl.Label) {
		if !impl.LabelOk(clear) || !impl.LabelOk(raise) {
			return
		}
		want := wantedAllowed(send, clear, raise)
		checkAllowed(t, "mixed labels", send, clear, raise, want)
		told[want]++
	}
	for i, send := range labels {
		for j := range labels {
			other, handle := labels[(7*i+11*j)%len(labels)], []int64{0, 5, 9, 10, 20, 500, 777, 998, 999}[j%9]
			clear, raise := ofHisOwn(send, labels[j], lv3), ofHisOwn(send, other, star)
			check(send, labels[j], other)
			check(send, clear, raise)
			more, _ := impl.With(clear, handle, int64(j%4))
			check(send, more, raise)
			more, _ = impl.With(raise, handle, int64(j%4+1))
			check(send, clear, more)
		}
	}
	if told[true] < 1000 || told[false] < 1000 {
		t.Errorf("%d are allowed and %d are not", told[true], told[false])
	}
}

// TestAllowedAtMaxParts has as many handles as all three labels can name.
func TestAllowedAtMaxParts(t *testing.T) {
	owner, all := apart(lv1, 8, star, 100), apart(star, 8, lv1, 300)
	for n := range int64(8) {
		checkAllowed(t, "all that he owns", owner, apart(lv3, n+1, lv0, 100), apart(star, n+1, lv3, 107-n), true)
		checkAllowed(t, "one more than he owns is cleared", owner, apart(lv3, n+1, lv0, 108-n), labelOf(star), false)
		checkAllowed(t, "one more than he owns is raised", owner, labelOf(lv3), apart(star, n+1, lv3, 99), false)
		checkAllowed(t, "all others are his", all, apart(lv3, n+1, lv0, 500), apart(star, n+1, lv3, 700), true)
		checkAllowed(t, "all others are his, one is not and is cleared", all, apart(lv3, n+1, lv0, 300-n), labelOf(star), false)
		checkAllowed(t, "all others are his, one is not and is raised", all, labelOf(lv3), apart(star, n+1, lv3, 307), false)
		want := n == 7
		checkAllowed(t, "the Base is cleared, but of so many that are not his", all, apart(lv2, n+1, lv3, 300), labelOf(star), want)
		checkAllowed(t, "the Base is raised, but of so many that are not his", all, labelOf(lv3), apart(lv2, n+1, star, 307-n), want)
	}
	checkAllowed(t, "24 handles, the Bases are cleared and raised", apart(star, 8, lv1, 300), apart(lv2, 8, lv3, 500), apart(lv2, 8, star, 700), false)
}

// TestTaintAndVerifyAskForNothing has each right label in both places, beside what is allowed and what is not.
func TestTaintAndVerifyAskForNothing(t *testing.T) {
	for _, send := range []impl.Label{labelOf(lv1), labelOf(lv3), labelOf(lv1, 5, star), labelOf(star), labelOf(star, 5, lv1)} {
		for _, clear := range []impl.Label{labelOf(lv3), labelOf(lv3, 5, lv0), labelOf(lv2)} {
			for _, raise := range []impl.Label{labelOf(star), labelOf(star, 5, lv0), labelOf(lv0)} {
				want := wantedAllowed(send, clear, raise)
				for _, taint := range mixedLabels() {
					for _, verify := range rightLabels() {
						terms := impl.Terms{Taint: taint, Clear: clear, Raise: raise, Verify: verify}
						if got := impl.Allowed(send, terms); got != want {
							t.Errorf("Allowed(%v, %v) = %v, want %v", send, terms, got, want)
						}
						terms.Taint, terms.Verify = verify, taint
						if got := impl.Allowed(send, terms); got != want {
							t.Errorf("Allowed(%v, %v) = %v, want %v", send, terms, got, want)
						}
					}
				}
			}
		}
	}
}

// TestWhoOwnsNothingCanClearAndRaiseNothing asks what promise 5 says.
func TestWhoOwnsNothingCanClearAndRaiseNothing(t *testing.T) {
	labels := slices.Concat(rightLabels(), smallLabels(), mixedLabels())
	poor := slices.DeleteFunc(slices.Clone(labels), func(l impl.Label) bool { return slices.Contains(levelsOf(l), star) || l.Base == star })
	if len(poor) < 50 {
		t.Fatalf("only %d own nothing", len(poor))
	}
	for _, send := range poor {
		for _, l := range labels {
			checkAllowed(t, "who owns nothing", send, l, labelOf(star), equalLabels(l, labelOf(lv3)))
			checkAllowed(t, "who owns nothing", send, labelOf(lv3), l, equalLabels(l, labelOf(star)))
			checkAllowed(t, "who owns nothing", send, l, l, false)
		}
	}
}

// TestAllowedOfWhatIsNotRight has each wrong label in each place, where all the others would be allowed, and beside others that would not.
func TestAllowedOfWhatIsNotRight(t *testing.T) {
	refused := func(name string, send impl.Label, terms impl.Terms) {
		t.Helper()
		if impl.Allowed(send, terms) {
			t.Errorf("%s: Allowed(%v, %v) = true, want false", name, send, terms)
		}
	}
	senders := []impl.Label{labelOf(star), labelOf(lv1, 5, star), fullLabel()}
	for name, wrong := range wrongLabels() {
		for _, terms := range rightTerms() {
			refused(name+", in send", wrong, terms)
			for place := range termsPlaces(&terms) {
				other := terms
				*termsPlaces(&other)[place] = wrong
				for _, send := range senders {
					refused(name+", in "+place, send, other)
				}
				refused(name+", in send and "+place, wrong, other)
			}
		}
		refused(name+", everywhere", wrong, impl.Terms{Taint: wrong, Clear: wrong, Raise: wrong, Verify: wrong})
	}
}

// five are eff, recv, Raise, Verify and door: what is told of Accepts is told of these.
type five[E any] [5]E

const (
	effAt = iota
	recvAt
	raiseAt
	verifyAt
	doorAt
)

var fiveNames = five[string]{"eff", "recv", "Raise", "Verify", "door"}

func (f five[E]) with(at int, e E) five[E] {
	f[at] = e
	return f
}

// mayBeHeard tells whether one handle that has these levels is accepted.
func mayBeHeard(f five[int64]) bool {
	return f[effAt] <= max(f[recvAt], f[raiseAt]) && f[effAt] <= f[verifyAt] && f[effAt] <= f[doorAt] && f[raiseAt] <= f[doorAt]
}

// labelsOfOne have these bases, and these levels of that handle.
func labelsOfOne(bases five[int64], handle int64, levels five[int64]) five[impl.Label] {
	var f five[impl.Label]
	for i := range f {
		f[i] = labelOf(bases[i])
		if levels[i] != bases[i] {
			f[i] = labelOf(bases[i], handle, levels[i])
		}
	}
	return f
}

// fiveOf is one of the 3125 ways to have five levels.
func fiveOf(n int) five[int64] {
	var f five[int64]
	for i := range f {
		f[i] = int64(n % 5)
		n /= 5
	}
	return f
}

func wantedAccepts(f five[impl.Label]) bool {
	var levels [5][]int64
	var bases five[int64]
	for i, l := range f {
		levels[i], bases[i] = levelsOf(l), l.Base
	}
	for h := range levels[0] {
		if !mayBeHeard(five[int64]{levels[0][h], levels[1][h], levels[2][h], levels[3][h], levels[4][h]}) {
			return false
		}
	}
	return mayBeHeard(bases)
}

func accepts(f five[impl.Label]) bool {
	terms := impl.Terms{Clear: labelOf(lv3), Raise: f[raiseAt], Verify: f[verifyAt]}
	return impl.Accepts(f[effAt], f[recvAt], terms, f[doorAt])
}

func checkAccepts(t *testing.T, name string, f five[impl.Label], want bool) {
	t.Helper()
	if got := accepts(f); got != want {
		t.Errorf("%s: Accepts of eff %v, recv %v, Raise %v, Verify %v, door %v = %v, want %v", name, f[0], f[1], f[2], f[3], f[4], got, want)
	}
}

// bound is one of what Accepts asks for: one label's level is at most another's, while all else is far from being broken.
type bound struct {
	less, more int
	// slack is what the others have; the two are put into it.
	slack five[int64]
}

func bounds() map[string]bound {
	return map[string]bound{
		"eff at most recv's":   {effAt, recvAt, five[int64]{recvAt: star, raiseAt: star, verifyAt: lv3, doorAt: lv3}},
		"eff at most Raise's":  {effAt, raiseAt, five[int64]{recvAt: star, raiseAt: star, verifyAt: lv3, doorAt: lv3}},
		"eff at most Verify's": {effAt, verifyAt, five[int64]{recvAt: lv3, raiseAt: star, verifyAt: lv3, doorAt: lv3}},
		"eff at most door's":   {effAt, doorAt, five[int64]{recvAt: lv3, raiseAt: star, verifyAt: lv3, doorAt: lv3}},
		"Raise at most door's": {raiseAt, doorAt, five[int64]{effAt: star, recvAt: lv3, verifyAt: lv3, doorAt: lv3}},
	}
}

// at is the bound's slack with those two levels.
func (b bound) at(less, more int64) five[int64] {
	return b.slack.with(b.less, less).with(b.more, more)
}

// met is what is far from being broken, the two among it: the one has the star; recv is what eff is held against, as Raise is not.
func (b bound) met() five[int64] { return b.at(star, lv3) }

// TestAcceptsEachBoundAlone has each bound met exactly, met by one level and more, and broken alone: at the Bases, and at a handle that both of the bound's labels name, or all five, or but one.
func TestAcceptsEachBoundAlone(t *testing.T) {
	for name, b := range bounds() {
		for less := int64(star); less <= lv3; less++ {
			for more := int64(star); more <= lv3; more++ {
				want, levels := less <= more, b.at(less, more)
				checkAccepts(t, name+", at the Bases", labelsOfOne(levels, 0, levels), want)
				for h := range int64(impl.MaxHandle + 1) {
					checkAccepts(t, name+", at a handle", labelsOfOne(b.met(), h, levels), want)
				}
				// The one label's Part is hidden in its Base, so that the other one alone names the handle.
				checkAccepts(t, name+", the lesser one names it", labelsOfOne(b.at(min(less, more), more), 5, levels), want)
				checkAccepts(t, name+", the greater one names it", labelsOfOne(b.at(less, max(less, more)), 5, levels), want)
			}
		}
	}
}

// TestAcceptsAtTheBasesBehindParts breaks each bound at the Bases, while all the handles that are named would be accepted.
func TestAcceptsAtTheBasesBehindParts(t *testing.T) {
	for name, b := range bounds() {
		for less := int64(star); less <= lv3; less++ {
			for more := int64(star); more <= lv3; more++ {
				for h := range int64(impl.MaxHandle + 1) {
					checkAccepts(t, name, labelsOfOne(b.at(less, more), h, b.met()), less <= more)
				}
			}
		}
	}
}

// TestAcceptsWhereOnlyOneNames has one label alone that names a handle, and is apart from its Base there.
func TestAcceptsWhereOnlyOneNames(t *testing.T) {
	one, top := labelOf(lv1), labelOf(lv3)
	easy := five[impl.Label]{one, top, labelOf(star), top, top}
	byRaise := five[impl.Label]{one, labelOf(star), labelOf(lv2), top, top}
	tight := five[impl.Label]{one, one, labelOf(star), one, one}
	for _, c := range []struct {
		name   string
		others five[impl.Label]
		at     int
		l      impl.Label
		want   bool
	}{
		{"eff is less", tight, effAt, labelOf(lv1, 5, lv0), true},
		{"eff is more than all", tight, effAt, labelOf(lv1, 5, lv2), false},
		{"eff is more than recv", easy.with(recvAt, one), effAt, labelOf(lv1, 5, lv2), false},
		{"eff is more than recv and Raise", byRaise, effAt, labelOf(lv1, 5, lv3), false},
		{"eff is just Raise", byRaise, effAt, labelOf(lv1, 5, lv2), true},
		{"eff is more than Verify", easy.with(verifyAt, one), effAt, labelOf(lv1, 5, lv2), false},
		{"eff is more than door", easy.with(doorAt, one), effAt, labelOf(lv1, 5, lv2), false},
		{"eff is more, but not than them", easy, effAt, labelOf(lv1, 5, lv3), true},
		{"recv is less than eff", easy, recvAt, labelOf(lv3, 5, lv0), false},
		{"recv is just eff", easy, recvAt, labelOf(lv3, 5, lv1), true},
		{"recv is more", tight, recvAt, labelOf(lv1, 5, lv3), true},
		{"recv is less than eff, but Raise is not", byRaise, recvAt, labelOf(lv3, 5, star), true},
		{"Raise is less than eff", byRaise, raiseAt, labelOf(lv2, 5, lv0), false},
		{"Raise is just eff", byRaise, raiseAt, labelOf(lv2, 5, lv1), true},
		{"Raise is less than eff, but recv is not", easy.with(raiseAt, labelOf(lv2)), raiseAt, labelOf(lv2, 5, star), true},
		{"Raise is more than door", tight, raiseAt, labelOf(star, 5, lv2), false},
		{"Raise is just door", tight, raiseAt, labelOf(star, 5, lv1), true},
		{"Verify is less than eff", easy, verifyAt, labelOf(lv3, 5, lv0), false},
		{"Verify is just eff", easy, verifyAt, labelOf(lv3, 5, lv1), true},
		{"Verify is less than Raise", byRaise, verifyAt, labelOf(lv3, 5, lv1), true},
		{"Verify is more", tight, verifyAt, labelOf(lv1, 5, lv3), true},
		{"door is less than eff", easy, doorAt, labelOf(lv3, 5, lv0), false},
		{"door is just eff", easy, doorAt, labelOf(lv3, 5, lv1), true},
		{"door is less than Raise", byRaise, doorAt, labelOf(lv3, 5, lv1), false},
		{"door is just Raise", byRaise, doorAt, labelOf(lv3, 5, lv2), true},
		{"door is more", tight, doorAt, labelOf(lv1, 5, lv3), true},
	} {
		checkAccepts(t, "the others alone", c.others.with(c.at, labelOf(c.l.Base)), true)
		checkAccepts(t, c.name, c.others.with(c.at, c.l), c.want)
	}
}

// TestAcceptsOfEveryBase has all levels of five bases.
func TestAcceptsOfEveryBase(t *testing.T) {
	for n := range 3125 {
		bases := fiveOf(n)
		checkAccepts(t, "the Bases", labelsOfOne(bases, 5, bases), mayBeHeard(bases))
	}
}

// TestAcceptsOfEveryLevel has all levels of one handle beside some bases, and some of them beside all.
func TestAcceptsOfEveryLevel(t *testing.T) {
	some := []five[int64]{
		{star, star, star, star, star},
		{lv3, lv3, star, lv3, lv3},
		{lv3, star, lv3, lv3, lv3},
		{lv1, lv2, star, lv3, lv3},
		{lv1, star, lv1, lv1, lv1},
		{lv0, lv0, lv2, lv1, lv2},
		{lv2, lv1, star, lv3, lv3},
	}
	told := map[bool]int{}
	check := func(bases, levels five[int64]) {
		want := mayBeHeard(bases) && mayBeHeard(levels)
		checkAccepts(t, "one handle", labelsOfOne(bases, 5, levels), want)
		told[want]++
	}
	for n := range 3125 {
		for _, bases := range some {
			check(bases, fiveOf(n))
		}
		for i := range 50 {
			check(fiveOf(n), fiveOf((11*n+67*i)%3125))
		}
	}
	if told[true] < 1000 || told[false] < 1000 {
		t.Errorf("%d are accepted and %d are not", told[true], told[false])
	}
}

// TestAcceptsByTheOrder asks what promise 5 says, by the other functions alone; what these labels' Join is can always be told.
func TestAcceptsByTheOrder(t *testing.T) {
	labels := smallLabels()
	turn := uint32(1)
	next := func() impl.Label {
		turn = turn*1664525 + 1013904223
		return labels[(turn>>8)%125]
	}
	told := map[bool]int{}
	for range 200000 {
		f := five[impl.Label]{next(), next(), next(), next(), next()}
		if turn%3 == 0 {
			f[effAt], _ = impl.Meet(f[effAt], f[verifyAt])
			f[doorAt], _ = impl.Join(f[doorAt], f[raiseAt])
		}
		whole, is := impl.Join(f[recvAt], f[raiseAt])
		want := is && impl.AtMost(f[effAt], whole) && impl.AtMost(f[effAt], f[verifyAt]) && impl.AtMost(f[effAt], f[doorAt]) && impl.AtMost(f[raiseAt], f[doorAt])
		checkAccepts(t, "small labels", f, want)
		told[want]++
	}
	if told[true] < 1000 || told[false] < 1000 {
		t.Errorf("%d are accepted and %d are not", told[true], told[false])
	}
}

// madeAcceptable makes recv, Verify and door as much as the others need; they may have too many parts then.
func madeAcceptable(f five[impl.Label]) five[impl.Label] {
	least := func(at int, others ...int) {
		levels, base := levelsOf(f[at]), f[at].Base
		for _, other := range others {
			for h, level := range levelsOf(f[other]) {
				levels[h] = max(levels[h], level)
			}
			base = max(base, f[other].Base)
		}
		f[at] = labelOfTable(base, levels)
	}
	least(recvAt, effAt)
	least(verifyAt, effAt)
	least(doorAt, effAt, raiseAt)
	return f
}

// TestAcceptsOfEveryHandle holds the answers against tables of all handles; what is accepted is then changed at one handle of one label.
func TestAcceptsOfEveryHandle(t *testing.T) {
	labels := mixedLabels()
	n := len(labels)
	told := map[bool]int{}
	check := func(f five[impl.Label]) {
		for _, l := range f {
			if !impl.LabelOk(l) {
				return
			}
		}
		want := wantedAccepts(f)
		checkAccepts(t, "mixed labels", f, want)
		told[want]++
	}
	for i := range labels {
		for j := range labels {
			f := five[impl.Label]{labels[i], labels[j], labels[(5*i+3*j)%n], labels[(i+7*j+9)%n], labels[(3*i+11*j+50)%n]}
			made := madeAcceptable(f)
			handle := []int64{0, 5, 9, 10, 20, 500, 777, 998, 999}[(i+j)%9]
			other, _ := impl.With(made[j%5], handle, int64((i+2*j)%5))
			check(f)
			check(made)
			check(made.with(j%5, other))
		}
	}
	if told[true] < 300 || told[false] < 300 {
		t.Errorf("%d are accepted and %d are not", told[true], told[false])
	}
}

// TestAcceptsAtMaxParts has labels that are full; the Join of recv and Raise, which can't be told, is of no matter.
func TestAcceptsAtMaxParts(t *testing.T) {
	recv, raise := apart(lv1, 8, lv3, 100), apart(star, 8, lv3, 300)
	verify, door := apart(lv3, 8, lv1, 500), apart(lv3, 8, lv1, 700)
	if _, is := impl.Join(recv, raise); is {
		t.Fatal("the Join of recv and Raise can be told")
	}
	for n := range int64(9) {
		eff := joined(lv1, apart(lv1, n, lv3, 100), apart(lv1, 8-n, lv2, 300))
		f := five[impl.Label]{eff, recv, raise, verify, door}
		checkAccepts(t, "recv and Raise, shared out", f, true)
		less := apart(lv1, 8, lv0, 900)
		checkAccepts(t, "forty handles", f.with(effAt, less), true)
		breaking := five[impl.Label]{
			effAt:    joined(lv1, apart(lv1, n, lv0, 100), apart(lv1, 1, lv2, 400)),
			recvAt:   joined(lv1, apart(lv1, n/2, star, 100), apart(lv1, 1, star, 200)),
			raiseAt:  joined(star, apart(star, n%8, lv2, 300), apart(star, 1, lv2, 700)),
			verifyAt: joined(lv3, apart(lv3, n%8, lv1, 500), apart(lv3, 1, lv0, 600)),
			doorAt:   joined(lv3, apart(lv3, n%8, lv1, 700), apart(lv3, 1, star, 900)),
		}
		for at, l := range breaking {
			other := f.with(effAt, labelOf(lv1)).with(at, l)
			checkAccepts(t, fiveNames[at]+" breaks it at one of many", other, false)
		}
	}
}

// TestTaintAndClearAreNotAccepted has each right label in both places: nothing is asked of these.
func TestTaintAndClearAreNotAccepted(t *testing.T) {
	raise, door := labelOf(star, 5, lv2), labelOf(lv3, 9, lv1)
	for _, eff := range []impl.Label{labelOf(lv1), labelOf(lv1, 5, lv2), labelOf(lv1, 6, lv2), labelOf(lv1, 9, lv2), labelOf(lv2)} {
		f := five[impl.Label]{eff, labelOf(lv1, 9, lv2), raise, labelOf(lv3), door}
		want := wantedAccepts(f)
		for _, taint := range mixedLabels() {
			for _, clear := range mixedLabels() {
				terms := impl.Terms{Taint: taint, Clear: clear, Raise: raise, Verify: labelOf(lv3)}
				if got := impl.Accepts(eff, f[recvAt], terms, door); got != want {
					t.Errorf("Accepts(%v, %v, %v, %v) = %v, want %v", eff, f[recvAt], terms, door, got, want)
				}
			}
		}
	}
}

// TestAcceptsOfWhatIsNotRight has each wrong label in each place, where all the others would be accepted, and beside others that would not.
func TestAcceptsOfWhatIsNotRight(t *testing.T) {
	refused := func(name string, eff, recv impl.Label, terms impl.Terms, door impl.Label) {
		t.Helper()
		if impl.Accepts(eff, recv, terms, door) {
			t.Errorf("%s: Accepts(%v, %v, %v, %v) = true, want false", name, eff, recv, terms, door)
		}
	}
	low, top := labelOf(star), labelOf(lv3)
	for name, wrong := range wrongLabels() {
		for _, l := range rightLabels() {
			refused(name+", in eff", wrong, top, impl.NoTerms(), l)
			refused(name+", in recv", low, wrong, impl.NoTerms(), l)
			refused(name+", in door", low, l, impl.NoTerms(), wrong)
		}
		for _, terms := range rightTerms() {
			refused(name+", in eff", wrong, top, terms, top)
			refused(name+", in recv", low, wrong, terms, top)
			refused(name+", in door", low, top, terms, wrong)
			for place := range termsPlaces(&terms) {
				other := terms
				*termsPlaces(&other)[place] = wrong
				refused(name+", in "+place, low, top, other, top)
				refused(name+", in "+place+" and eff", wrong, top, other, top)
				refused(name+", in "+place+" and recv", low, wrong, other, top)
				refused(name+", in "+place+" and door", low, top, other, wrong)
			}
		}
		refused(name+", in eff, recv and door", wrong, wrong, impl.NoTerms(), wrong)
		refused(name+", everywhere", wrong, wrong, impl.Terms{Taint: wrong, Clear: wrong, Raise: wrong, Verify: wrong}, wrong)
	}
}

// TestArgumentsOfTermsStay calls everything with spare room behind the parts, in each place, and holds that room against a copy.
func TestArgumentsOfTermsStay(t *testing.T) {
	labels := anyLabels()
	n := len(labels)
	for i := range labels {
		for j := range labels {
			var held [7]impl.Label
			var rooms, copies [7][]impl.Part
			for at := range held {
				held[at], rooms[at] = heldLabel(labels[(i+at*(j+1)+at*at)%n])
				copies[at] = slices.Clone(rooms[at])
			}
			terms := impl.Terms{Taint: held[0], Clear: held[1], Raise: held[2], Verify: held[3]}
			same := impl.Terms{Taint: held[4], Clear: held[4], Raise: held[4], Verify: held[4]}
			impl.TermsOk(terms)
			impl.Allowed(held[4], terms)
			impl.Accepts(held[4], held[5], terms, held[6])
			impl.TermsOk(same)
			impl.Allowed(held[4], same)
			impl.Accepts(held[4], held[4], same, held[4])
			for at, room := range rooms {
				if !slices.Equal(room, copies[at]) {
					t.Fatalf("an argument was written into: %v, want %v", room, copies[at])
				}
			}
		}
	}
}

// TestTermsOfRightArgumentsStay has right labels alone, of which every handle is asked.
func TestTermsOfRightArgumentsStay(t *testing.T) {
	for _, l := range rightLabels() {
		for _, other := range rightLabels() {
			one, oneRoom := heldLabel(l)
			two, twoRoom := heldLabel(other)
			oneCopy, twoCopy := slices.Clone(oneRoom), slices.Clone(twoRoom)
			terms := impl.Terms{Taint: one, Clear: two, Raise: one, Verify: two}
			impl.Allowed(one, terms)
			impl.Allowed(two, terms)
			impl.Accepts(one, two, terms, two)
			impl.Accepts(two, one, terms, one)
			if !slices.Equal(oneRoom, oneCopy) || !slices.Equal(twoRoom, twoCopy) {
				t.Errorf("an argument was written into: %v, %v, want %v, %v", oneRoom, twoRoom, oneCopy, twoCopy)
			}
		}
	}
}
