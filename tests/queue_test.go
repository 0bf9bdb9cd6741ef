package tests

import (
	"maps"
	"reflect"
	"slices"
	"strconv"
	"testing"

	"loop.example/g00805/impl"
)

func equalMsgs(a, b impl.Msg) bool {
	for place, l := range msgLabels(&a) {
		if !equalLabels(*l, *msgLabels(&b)[place]) {
			return false
		}
	}
	return a.From == b.From && a.Value == b.Value
}

func equalDoors(a, b impl.Door) bool {
	return a.Handle == b.Handle && equalLabels(a.Label, b.Label) && slices.EqualFunc(a.Queue, b.Queue, equalMsgs)
}

func doorWith(queue ...impl.Msg) impl.Door {
	return impl.Door{Handle: 102, Label: labelOf(lv3, 900, lv0), Queue: queue}
}

func countFrom(queue []impl.Msg, who int64) int {
	n := 0
	for _, m := range queue {
		if m.From == who {
			n++
		}
	}
	return n
}

// wantedQueued counts on both to be right.
func wantedQueued(d impl.Door, m impl.Msg) impl.Door {
	if countFrom(d.Queue, m.From) < 3 {
		d.Queue = append(slices.Clone(d.Queue), m)
	}
	return d
}

func checkQueued(t *testing.T, name string, d impl.Door, m impl.Msg, want impl.Door) {
	t.Helper()
	if got := impl.Queued(d, m); !equalDoors(got, want) {
		t.Errorf("%s: Queued(%v, %v) = %v, want %v", name, d, m, got, want)
	}
}

func wantedJoin(a, b impl.Label) (impl.Label, bool) { return operations()[0].wanted(a, b) }

// wantedComesIn tells by the tables of all handles; it counts on all to be right.
func wantedComesIn(m impl.Msg, send, recv, door impl.Label) (impl.Label, impl.Label, bool) {
	heard, sendTold := wantedTaint(send, m.Terms.Clear, m.Eff)
	raised, recvTold := wantedJoin(recv, m.Terms.Raise)
	if !sendTold || !recvTold || !wantedAccepts(five[impl.Label]{m.Eff, recv, m.Terms.Raise, m.Terms.Verify, door}) {
		return impl.Label{}, impl.Label{}, false
	}
	return heard, raised, true
}

func checkComesIn(t *testing.T, name string, m impl.Msg, send, recv, door, wantSend, wantRecv impl.Label, want bool) {
	t.Helper()
	gotSend, gotRecv, got := impl.ComesIn(m, send, recv, door)
	if got != want || !equalLabels(gotSend, wantSend) || !equalLabels(gotRecv, wantRecv) {
		t.Errorf("%s: ComesIn(%v, send %v, recv %v, door %v) = %v, %v, %v, want %v, %v, %v", name, m, send, recv, door, gotSend, gotRecv, got, wantSend, wantRecv, want)
	}
}

func checkStaysOut(t *testing.T, name string, m impl.Msg, send, recv, door impl.Label) {
	t.Helper()
	checkComesIn(t, name, m, send, recv, door, impl.Label{}, impl.Label{}, false)
}

// wantedPassed counts on all three to be right.
func wantedPassed(d impl.Door, send, recv impl.Label) (impl.Door, impl.Msg, bool) {
	for len(d.Queue) > 0 {
		m := d.Queue[0]
		d.Queue = d.Queue[1:]
		if _, _, in := wantedComesIn(m, send, recv, d.Label); in {
			return d, m, true
		}
	}
	return d, impl.Msg{}, false
}

func checkPassed(t *testing.T, name string, d impl.Door, send, recv impl.Label, wantDoor impl.Door, wantMsg impl.Msg, want bool) {
	t.Helper()
	gotDoor, gotMsg, got := impl.Passed(d, send, recv)
	if got != want || !equalDoors(gotDoor, wantDoor) || !equalMsgs(gotMsg, wantMsg) {
		t.Errorf("%s: Passed(%v, %v, %v) = %v, %v, %v, want %v, %v, %v", name, d, send, recv, gotDoor, gotMsg, got, wantDoor, wantMsg, want)
	}
}

// waiting are a process that has six parts in both its labels, and may hear no more than Lv2 of all others.
func waiting() (send, recv impl.Label) { return apart(lv1, 6, lv3, 100), apart(lv2, 6, lv3, 100) }

func msgOf(eff impl.Label, terms impl.Terms) impl.Msg {
	return impl.Msg{From: 1, Value: 70, Eff: eff, Terms: terms}
}

// verified are NoTerms but for the Verify.
func verified(verify impl.Label) impl.Terms {
	terms := impl.NoTerms()
	terms.Verify = verify
	return terms
}

// inMsgs come in at doorWith, for those who are waiting.
func inMsgs() map[string]impl.Msg {
	top, low := labelOf(lv3), labelOf(star)
	return map[string]impl.Msg{
		"a plain one":                 msgOf(labelOf(lv0), impl.NoTerms()),
		"one that has heard nothing":  msgOf(low, impl.NoTerms()),
		"just what recv may hear":     msgOf(labelOf(lv2, 100, lv3, 900, lv0), impl.NoTerms()),
		"just what Raise lets hear":   msgOf(labelOf(lv0, 5, lv3), termsOf(top, labelOf(star, 5, lv3))),
		"just what Verify says":       msgOf(labelOf(lv0, 5, lv2), verified(labelOf(lv0, 5, lv2))),
		"send is just full":           msgOf(labelOf(lv0, 1, lv2, 2, lv2), impl.NoTerms()),
		"recv is just full":           msgOf(low, termsOf(top, labelOf(star, 1, lv3, 2, lv3))),
		"it clears one more, is full": msgOf(labelOf(lv0, 1, lv2, 2, lv2, 3, lv2), termsOf(labelOf(lv3, 100, lv1), low)),
		"Raise is just the door's":    msgOf(low, termsOf(top, labelOf(star, 900, lv0))),
	}
}

// outMsgs don't, each for one reason.
func outMsgs() map[string]impl.Msg {
	top := labelOf(lv3)
	return map[string]impl.Msg{
		"more than recv at a handle":   msgOf(labelOf(lv0, 5, lv3), impl.NoTerms()),
		"more than recv at the Base":   msgOf(labelOf(lv3, 900, lv0), impl.NoTerms()),
		"more than Verify at a handle": msgOf(labelOf(lv0), verified(labelOf(lv3, 5, star))),
		"more than Verify at the Base": msgOf(labelOf(lv2, 900, lv0), verified(labelOf(lv1))),
		"more than door at a handle":   msgOf(labelOf(lv0, 900, lv1), impl.NoTerms()),
		"Raise is more than door":      msgOf(labelOf(lv0), termsOf(top, labelOf(star, 900, lv1))),
		"send would be too full":       msgOf(labelOf(lv0, 1, lv2, 2, lv2, 3, lv2), impl.NoTerms()),
		"recv would be too full":       msgOf(labelOf(lv0), termsOf(top, labelOf(star, 1, lv3, 2, lv3, 3, lv3))),
		"both would be too full":       msgOf(labelOf(lv0, 1, lv2, 2, lv2, 3, lv2), termsOf(top, labelOf(star, 1, lv3, 2, lv3, 3, lv3))),
	}
}

func byName(all map[string]impl.Msg) []impl.Msg {
	list := []impl.Msg{}
	for _, name := range slices.Sorted(maps.Keys(all)) {
		list = append(list, all[name])
	}
	return list
}

// places gives each message a From in turn, and a Value of its own.
func places(queue []impl.Msg) []impl.Msg {
	for i := range queue {
		queue[i].From, queue[i].Value = int64(i%4), int64(1000+i)
	}
	return queue
}

// patternQueue has a message that comes in where the pattern has a bit, and one that doesn't elsewhere; turn says which ones.
func patternQueue(pattern, n, turn int) []impl.Msg {
	in, out := byName(inMsgs()), byName(outMsgs())
	queue := []impl.Msg{}
	for i := range n {
		if pattern>>i&1 == 1 {
			queue = append(queue, in[(turn+2*i)%len(in)])
		} else {
			queue = append(queue, out[(turn+4*i)%len(out)])
		}
	}
	return places(queue)
}

func TestQueuedOfEachFrom(t *testing.T) {
	for from := range int64(4) {
		m := msgFrom(from, 70)
		a, b, c := (from+1)%4, (from+2)%4, (from+3)%4
		for name, queue := range map[string][]impl.Msg{
			"behind nil":                         nil,
			"behind none":                        {},
			"behind one of another":              queueFrom(a),
			"behind all others":                  queueFrom(a, b, c),
			"behind shares of all others":        queueFrom(a, b, c, a, b, c, a, b, c),
			"one of his own":                     queueFrom(from),
			"one less than a share":              queueFrom(from, from),
			"one less than a share, apart":       queueFrom(from, a, b, from, c),
			"one less than a share, at the end":  queueFrom(a, a, a, from, from),
			"one less, shares of all others":     queueFrom(a, a, a, from, b, b, b, from, c, c, c),
			"one less, shares of others between": queueFrom(from, a, b, c, a, b, c, a, b, c, from),
		} {
			want := doorWith(slices.Concat(queue, []impl.Msg{m})...)
			checkQueued(t, name, doorWith(queue...), m, want)
		}
		for name, queue := range map[string][]impl.Msg{
			"just a share":                     queueFrom(from, from, from),
			"just a share, apart":              queueFrom(from, a, from, b, c, from),
			"just a share, at the beginning":   queueFrom(from, from, from, a, b, c),
			"just a share, at the end":         queueFrom(a, b, c, from, from, from),
			"just a share, and one of another": queueFrom(from, from, from, a),
			"shares of all":                    fullQueue(),
		} {
			checkQueued(t, name, doorWith(queue...), m, doorWith(queue...))
		}
	}
}

// TestQueuedOfEveryShare has each number of messages of each From, one behind the other and by turns: what others have changes nothing of it.
func TestQueuedOfEveryShare(t *testing.T) {
	for n := range 256 {
		counts := []int{n & 3, n >> 2 & 3, n >> 4 & 3, n >> 6}
		row, turns := []int64{}, []int64{}
		for who, count := range counts {
			row = append(row, slices.Repeat([]int64{int64(who)}, count)...)
		}
		for round := range 3 {
			for who, count := range counts {
				if round < count {
					turns = append(turns, int64(who))
				}
			}
		}
		back := slices.Clone(row)
		slices.Reverse(back)
		for _, froms := range [][]int64{row, turns, back} {
			for who, count := range counts {
				d, m := doorWith(queueFrom(froms...)...), msgFrom(int64(who), 70)
				want := d
				if count < 3 {
					want.Queue = slices.Concat(d.Queue, []impl.Msg{m})
				}
				checkQueued(t, "every share", d, m, want)
			}
		}
	}
}

// TestQueuedAtEachDoor has doors that have each handle and label; these stay, and no share is greater at one's own door.
func TestQueuedAtEachDoor(t *testing.T) {
	for i, d := range rightDoors() {
		for from := range int64(4) {
			for j, m := range rightMsgs() {
				if (i+j)%7 == 0 {
					m.From = from
					want := wantedQueued(d, m)
					checkQueued(t, "at each door", d, m, want)
					checkDoor(t, "at each door", impl.Queued(d, m), true)
				}
			}
		}
	}
}

// TestQueuedOfEachMsg has each right message: all its parts are there, whoever may hear it.
func TestQueuedOfEachMsg(t *testing.T) {
	for _, m := range slices.Concat(rightMsgs(), byName(inMsgs()), byName(outMsgs())) {
		a := (m.From + 1) % 4
		for _, queue := range [][]impl.Msg{nil, queueFrom(a, a, a), {m}, {m, m}, {m, msgFrom(a, 1), m}} {
			checkQueued(t, "each message", doorWith(queue...), m, doorWith(slices.Concat(queue, []impl.Msg{m})...))
		}
		checkQueued(t, "a share of it", doorWith(m, m, m), m, doorWith(m, m, m))
		checkQueued(t, "the zero Door", impl.Door{}, m, impl.Door{Queue: []impl.Msg{m}})
	}
}

// TestQueuedOneBehindTheOther has all rows of up to six messages, and some long ones: of each From the first three are there, in order.
func TestQueuedOneBehindTheOther(t *testing.T) {
	check := func(froms []int64) {
		d, want := doorWith(), doorWith()
		for i, who := range froms {
			m := msgFrom(who, int64(i))
			if countFrom(want.Queue, who) < 3 {
				want.Queue = append(want.Queue, m)
			}
			d = impl.Queued(d, m)
			if !equalDoors(d, want) {
				t.Fatalf("%v: %v, want %v", froms[:i+1], d, want)
			}
		}
	}
	for n := range 4096 {
		froms := []int64{}
		for i := range 6 {
			froms = append(froms, int64(n>>(2*i)&3))
		}
		check(froms)
	}
	turn := uint32(1)
	for range 500 {
		froms := []int64{}
		for range 30 {
			turn = turn*1664525 + 1013904223
			froms = append(froms, int64(turn>>8)%4)
		}
		check(froms)
	}
}

// TestNobodysShareIsTakenByOthers queues what one sends alone, and between what others send: of his own, the same is there.
func TestNobodysShareIsTakenByOthers(t *testing.T) {
	turn := uint32(7)
	for range 2000 {
		row := []impl.Msg{}
		for i := range 24 {
			turn = turn*1664525 + 1013904223
			row = append(row, msgFrom(int64(turn>>8)%4, int64(i)))
		}
		all := doorWith()
		for _, m := range row {
			all = impl.Queued(all, m)
		}
		for who := range int64(4) {
			isHis := func(m impl.Msg) bool { return m.From == who }
			alone := doorWith()
			for _, m := range row {
				if isHis(m) {
					alone = impl.Queued(alone, m)
				}
			}
			his := slices.DeleteFunc(slices.Clone(all.Queue), func(m impl.Msg) bool { return !isHis(m) })
			if !slices.EqualFunc(his, alone.Queue, equalMsgs) {
				t.Fatalf("of %d there are %v among others, and alone %v", who, his, alone.Queue)
			}
		}
	}
}

// wrongDoors are right but for one thing each.
func wrongDoors() map[string]impl.Door {
	wrong := map[string]impl.Door{}
	for _, handle := range []int64{-1, 9, 99, 109, 309, 400, 1000, 1 << 32} {
		d := doorWith(queueFrom(1, 2)...)
		d.Handle = handle
		wrong["its Handle is "+strconv.FormatInt(handle, 10)] = d
	}
	for name, l := range wrongLabels() {
		d := doorWith(queueFrom(1, 2)...)
		d.Label = l
		wrong["its Label is "+name] = d
	}
	for name, m := range wrongMsgs() {
		wrong["alone in its Queue is "+name] = doorWith(m)
		wrong["first in its Queue is "+name] = doorWith(m, msgFrom(1, 1), msgFrom(2, 2))
		wrong["in the middle of its Queue is "+name] = doorWith(msgFrom(1, 1), m, msgFrom(2, 2))
		wrong["last in its Queue is "+name] = doorWith(msgFrom(1, 1), msgFrom(2, 2), m)
	}
	for who := range int64(4) {
		of := " of " + strconv.FormatInt(who, 10)
		wrong["a share passed by one"+of] = doorWith(queueFrom(who, who, who, who)...)
		wrong["a share passed by one, apart"+of] = doorWith(queueFrom(who, (who+1)%4, who, who, (who+2)%4, who)...)
		wrong["shares of all, and one more"+of] = doorWith(append(fullQueue(), msgFrom(who, 50))...)
	}
	return wrong
}

// TestQueuedOfWhatIsNotRight has each wrong Door and Msg beside right ones, beside such as have no room, and beside wrong ones.
func TestQueuedOfWhatIsNotRight(t *testing.T) {
	for name, d := range wrongDoors() {
		for from := range int64(4) {
			checkQueued(t, name, d, msgFrom(from, 70), impl.Door{})
		}
		checkQueued(t, name, d, impl.Msg{}, impl.Door{})
		checkQueued(t, name+", and the Msg", d, msgFrom(4, 70), impl.Door{})
	}
	for name, m := range wrongMsgs() {
		for _, d := range []impl.Door{{}, doorWith(), doorWith(queueFrom(1, 2)...), doorWith(queueFrom(1, 1, 1)...), doorWith(fullQueue()...)} {
			checkQueued(t, name, d, m, impl.Door{})
		}
	}
}

// TestComesIn holds what send and recv are then against labels that are written out.
func TestComesIn(t *testing.T) {
	top, low := labelOf(lv3), labelOf(star)
	for _, c := range []struct {
		name                         string
		eff, clear, raise            impl.Label
		send, recv, thenSend, thenIn impl.Label
	}{
		{"it has heard less", labelOf(lv0), top, low, labelOf(lv1), labelOf(lv2), labelOf(lv1), labelOf(lv2)},
		{"it has heard more", labelOf(lv2), top, low, labelOf(lv1), labelOf(lv2), labelOf(lv2), labelOf(lv2)},
		{"it has heard more of a handle", labelOf(lv0, 5, lv2), top, low, labelOf(lv1), labelOf(lv2), labelOf(lv1, 5, lv2), labelOf(lv2)},
		{"who owns it keeps the star", labelOf(lv0, 5, lv2), top, low, labelOf(lv1, 5, star), labelOf(lv2), labelOf(lv1, 5, star), labelOf(lv2)},
		{"who owns it keeps the star, whatever is cleared", labelOf(lv2, 5, lv1), labelOf(lv3, 5, lv0), low, labelOf(lv1, 5, star), labelOf(lv2), labelOf(lv2, 5, star), labelOf(lv2)},
		{"who owns all keeps the stars", labelOf(lv2, 6, lv1), top, low, labelOf(star), labelOf(lv2), labelOf(star), labelOf(lv2)},
		{"who owns all but one", labelOf(lv2, 6, lv1), top, low, labelOf(star, 5, lv0), labelOf(lv2), labelOf(star, 5, lv2), labelOf(lv2)},
		{"it clears a handle", labelOf(lv0), labelOf(lv3, 5, star), low, labelOf(lv1, 5, lv3), labelOf(lv2), labelOf(lv1, 5, lv0), labelOf(lv2)},
		{"it clears a handle to the Base", labelOf(lv0), labelOf(lv3, 5, lv1), low, labelOf(lv1, 5, lv3), labelOf(lv2), labelOf(lv1), labelOf(lv2)},
		{"it clears a handle, but has heard of it", labelOf(lv0, 5, lv2), labelOf(lv3, 5, star), low, labelOf(lv1, 5, lv3), labelOf(lv2), labelOf(lv1, 5, lv2), labelOf(lv2)},
		{"it clears all", labelOf(star), labelOf(star), low, labelOf(lv3, 5, lv1), labelOf(lv2), labelOf(star), labelOf(lv2)},
		{"it clears all to a level", labelOf(lv0), labelOf(lv1), low, labelOf(lv3, 5, lv0), labelOf(lv2), labelOf(lv1, 5, lv0), labelOf(lv2)},
		{"it raises a handle", labelOf(lv0), top, labelOf(star, 5, lv3), labelOf(lv1), labelOf(lv2), labelOf(lv1), labelOf(lv2, 5, lv3)},
		{"it raises a handle that is higher", labelOf(lv0), top, labelOf(star, 5, lv1), labelOf(lv1), labelOf(lv2), labelOf(lv1), labelOf(lv2)},
		{"it raises a handle to the Base", labelOf(lv0), top, labelOf(star, 5, lv2), labelOf(lv1), labelOf(lv2, 5, lv1), labelOf(lv1), labelOf(lv2)},
		{"it raises all", labelOf(lv0), top, labelOf(lv3), labelOf(lv1), labelOf(lv2, 5, star), labelOf(lv1), labelOf(lv3)},
		{"it raises all but one", labelOf(star), top, labelOf(lv3, 5, star), labelOf(lv1), labelOf(lv2, 5, lv0), labelOf(lv1), labelOf(lv3, 5, lv0)},
		{"it raises what it has heard", labelOf(lv0, 5, lv3), top, labelOf(star, 5, lv3), labelOf(lv1), labelOf(lv2), labelOf(lv1, 5, lv3), labelOf(lv2, 5, lv3)},
		{"it clears and raises", labelOf(lv0, 7, lv2), labelOf(lv3, 5, star), labelOf(star, 6, lv3), labelOf(lv1, 5, lv3), labelOf(lv2), labelOf(lv1, 5, lv0, 7, lv2), labelOf(lv2, 6, lv3)},
		{"it clears what it raises", labelOf(lv0), labelOf(lv3, 5, star), labelOf(star, 5, lv3), labelOf(lv1, 5, lv3), labelOf(lv2), labelOf(lv1, 5, lv0), labelOf(lv2, 5, lv3)},
		{"recv is a star", labelOf(star), top, low, labelOf(lv1), labelOf(star), labelOf(lv1), labelOf(star)},
		{"all are zero", low, low, low, low, low, low, low},
	} {
		m := msgOf(c.eff, termsOf(c.clear, c.raise))
		checkComesIn(t, c.name, m, c.send, c.recv, top, c.thenSend, c.thenIn, true)
		m.Terms.Verify = labelOf(m.Eff.Base, 0, lv3)
		m.Terms.Verify.Parts = append(m.Terms.Verify.Parts, c.eff.Parts...)
		checkComesIn(t, c.name+", just verified", m, c.send, c.recv, top, c.thenSend, c.thenIn, true)
	}
}

func TestComesInOfWhatIsWaitedFor(t *testing.T) {
	send, recv := waiting()
	for name, m := range inMsgs() {
		wantSend, wantRecv, want := wantedComesIn(m, send, recv, doorWith().Label)
		if !want {
			t.Errorf("%s: the tables tell that it stays out", name)
		}
		checkComesIn(t, name, m, send, recv, doorWith().Label, wantSend, wantRecv, true)
	}
	for name, m := range outMsgs() {
		if _, _, want := wantedComesIn(m, send, recv, doorWith().Label); want {
			t.Errorf("%s: the tables tell that it comes in", name)
		}
		checkStaysOut(t, name, m, send, recv, doorWith().Label)
	}
	for _, name := range []string{"send would be too full", "recv would be too full", "both would be too full"} {
		m := outMsgs()[name]
		if !impl.Accepts(m.Eff, recv, m.Terms, doorWith().Label) {
			t.Errorf("%s: it is not accepted at all", name)
		}
	}
}

// TestComesInEachBoundAlone has each bound of what is accepted met exactly, met by a level and more, and broken by one and more: at the Bases, and at a handle.
func TestComesInEachBoundAlone(t *testing.T) {
	check := func(name string, f five[impl.Label], want bool) {
		t.Helper()
		send, m := labelOf(lv1, 9, star), msgOf(f[effAt], impl.Terms{Clear: labelOf(lv3), Raise: f[raiseAt], Verify: f[verifyAt]})
		thenSend, thenRecv, is := wantedComesIn(m, send, f[recvAt], f[doorAt])
		if is != want {
			t.Errorf("%s: the tables tell %v", name, is)
		}
		checkComesIn(t, name, m, send, f[recvAt], f[doorAt], thenSend, thenRecv, want)
	}
	for name, b := range bounds() {
		for less := int64(star); less <= lv3; less++ {
			for more := int64(star); more <= lv3; more++ {
				levels := b.at(less, more)
				check(name+", at the Bases", labelsOfOne(levels, 0, levels), less <= more)
				for _, h := range []int64{0, 5, 9, 102, 500, 999} {
					check(name+", at a handle", labelsOfOne(b.met(), h, levels), less <= more)
					check(name+", at the Bases alone", labelsOfOne(levels, h, b.met()), less <= more)
				}
			}
		}
	}
}

// TestComesInByRecvAndRaiseTogether has what the one lets hear beside what the other does, and what neither does.
func TestComesInByRecvAndRaiseTogether(t *testing.T) {
	recv, raise, top := labelOf(lv1, 5, lv3, 6, star), labelOf(star, 6, lv3, 7, lv1, 8, lv2), labelOf(lv3)
	for _, c := range []struct {
		name string
		eff  impl.Label
		want bool
	}{
		{"just all", labelOf(lv1, 5, lv3, 6, lv3, 8, lv2), true},
		{"less", labelOf(lv0, 5, lv2, 6, lv2, 8, lv1), true},
		{"at the Base by one level", labelOf(lv2), false},
		{"at the Base by one level, of no other handle", labelOf(lv2, 7, lv1), false},
		{"where both are the same, by one level", labelOf(lv1, 7, lv2), false},
		{"where Raise is more, by one level", labelOf(lv1, 8, lv3), false},
		{"where neither names it", labelOf(lv1, 9, lv2), false},
	} {
		m := msgOf(c.eff, termsOf(top, raise))
		send, then, want := wantedComesIn(m, labelOf(lv1), recv, top)
		if want != c.want {
			t.Errorf("%s: the tables tell %v", c.name, want)
		}
		checkComesIn(t, c.name, m, labelOf(lv1), recv, top, send, then, c.want)
	}
}

// TestComesInOfEveryLevel has all levels of a handle in each place, beside all levels of the Bases in an order of their own.
func TestComesInOfEveryLevel(t *testing.T) {
	told := map[bool]int{}
	for n := range 3125 * 25 {
		bases, levels := fiveOf((13*n+n/3125)%3125), fiveOf(n)
		if n%3 != 0 {
			bases = fiveOf((7*n + 11) % 3125)
			bases[verifyAt], bases[doorAt], bases[effAt] = lv3, lv3, min(bases[effAt], bases[recvAt])
		}
		f := labelsOfOne(bases, 5, levels)
		send, clear := labelOf(int64(n/7%5)), labelOf(int64(n/5%5))
		send, _ = impl.With(send, 5, int64(n/3125%5))
		clear, _ = impl.With(clear, 5, int64(n/15625%5))
		m := impl.Msg{From: int64(n % 4), Value: int64(n), Eff: f[effAt], Terms: impl.Terms{Clear: clear, Raise: f[raiseAt], Verify: f[verifyAt]}}
		want := mayBeHeard(bases) && mayBeHeard(levels)
		thenSend, thenRecv := impl.Label{}, impl.Label{}
		if want {
			thenSend, thenRecv = labelOf(taintedLevel(send.Base, clear.Base, bases[effAt])), labelOf(max(bases[recvAt], bases[raiseAt]))
			thenSend, _ = impl.With(thenSend, 5, taintedLevel(impl.LevelOf(send, 5), impl.LevelOf(clear, 5), levels[effAt]))
			thenRecv, _ = impl.With(thenRecv, 5, max(levels[recvAt], levels[raiseAt]))
		}
		checkComesIn(t, "one handle", m, send, f[recvAt], f[doorAt], thenSend, thenRecv, want)
		told[want]++
	}
	if told[true] < 1000 || told[false] < 1000 {
		t.Errorf("%d come in and %d don't", told[true], told[false])
	}
}

// TestComesInOfEveryHandle holds the answers against tables of all handles; many of these labels have too many parts together.
func TestComesInOfEveryHandle(t *testing.T) {
	labels := mixedLabels()
	n := len(labels)
	told, full := map[bool]int{}, 0
	for i := range labels {
		for j := range labels {
			f := madeAcceptable(five[impl.Label]{labels[i], labels[(3*i+j)%n], labels[(5*i+3*j)%n], labels[(i+7*j+9)%n], labels[(3*i+11*j+50)%n]})
			if i%4 == 0 {
				f[j%5], _ = impl.With(labels[(i+j)%n], 5, int64(j%5))
			}
			if slices.ContainsFunc(f[:], func(l impl.Label) bool { return !impl.LabelOk(l) }) {
				continue
			}
			send, clear, taint := labels[j], labels[(9*i+5*j)%n], labels[(2*i+j)%n]
			m := msgOf(f[effAt], impl.Terms{Taint: taint, Clear: clear, Raise: f[raiseAt], Verify: f[verifyAt]})
			thenSend, thenRecv, want := wantedComesIn(m, send, f[recvAt], f[doorAt])
			checkComesIn(t, "mixed labels", m, send, f[recvAt], f[doorAt], thenSend, thenRecv, want)
			told[want]++
			if !want && wantedAccepts(f) {
				full++
			}
		}
	}
	if told[true] < 200 || told[false] < 200 || full < 100 {
		t.Errorf("%d come in and %d don't, %d of them as they can't be told", told[true], told[false], full)
	}
}

// TestComesInAtMaxParts shares out just as many parts as there may be, and one more and so on, over all that send and recv come of.
func TestComesInAtMaxParts(t *testing.T) {
	top := labelOf(lv3)
	for n := range int64(9) {
		for m := range int64(9) {
			send, eff := apart(lv1, n, lv3, 100), apart(lv0, m, lv2, 900)
			then := joined(lv1, send, eff)
			if n+m <= 8 {
				checkComesIn(t, "send", msgOf(eff, impl.NoTerms()), send, top, top, then, top, true)
			} else {
				checkStaysOut(t, "send", msgOf(eff, impl.NoTerms()), send, top, top)
			}
			clear := termsOf(apart(lv3, m, lv0, 500), labelOf(star))
			then = joined(lv1, send, apart(lv1, m, lv0, 500))
			if n+m <= 8 {
				checkComesIn(t, "send, cleared", msgOf(labelOf(star), clear), send, top, top, then, top, true)
			} else {
				checkStaysOut(t, "send, cleared", msgOf(labelOf(star), clear), send, top, top)
			}
			recv, raise := apart(lv1, n, star, 100), apart(star, m, lv3, 500)
			then = joined(lv1, recv, apart(lv1, m, lv3, 500))
			if n+m <= 8 {
				checkComesIn(t, "recv", msgOf(labelOf(star), termsOf(top, raise)), labelOf(lv0), recv, top, labelOf(lv0), then, true)
			} else {
				checkStaysOut(t, "recv", msgOf(labelOf(star), termsOf(top, raise)), labelOf(lv0), recv, top)
			}
			checkComesIn(t, "what comes out as the Base is no part", msgOf(labelOf(star), termsOf(top, apart(star, m, lv0, 500))), labelOf(lv0), recv, top, labelOf(lv0), recv, true)
			checkComesIn(t, "of stars there is no more", msgOf(eff, impl.NoTerms()), labelOf(star), top, top, labelOf(star), top, true)
		}
	}
	full := apart(lv1, 8, lv3, 100)
	checkComesIn(t, "both are full", msgOf(labelOf(lv0), termsOf(top, apart(star, 8, lv2, 100))), full, full, top, full, full, true)
	checkStaysOut(t, "both are full, send can't be told", msgOf(labelOf(lv0, 5, lv2), termsOf(top, labelOf(star, 100, lv3))), full, top, top)
	checkStaysOut(t, "both are full, recv can't be told", msgOf(labelOf(lv0), termsOf(top, labelOf(star, 5, lv2))), full, full, top)
	checkStaysOut(t, "both are full, neither can be told", msgOf(labelOf(lv0, 5, lv2), termsOf(top, labelOf(star, 5, lv2))), full, full, top)
}

// TestComesInWhoeverSaysWhat has each From, some Values and many Taints: nothing is asked of these.
func TestComesInWhoeverSaysWhat(t *testing.T) {
	send, recv := waiting()
	door := doorWith().Label
	for from := range int64(4) {
		for _, value := range []int64{0, 1, 999999} {
			for _, taint := range mixedLabels() {
				for name, m := range inMsgs() {
					thenSend, thenRecv, _ := wantedComesIn(m, send, recv, door)
					m.From, m.Value, m.Terms.Taint = from, value, taint
					checkComesIn(t, name, m, send, recv, door, thenSend, thenRecv, true)
				}
				for name, m := range outMsgs() {
					m.From, m.Value, m.Terms.Taint = from, value, taint
					checkStaysOut(t, name, m, send, recv, door)
				}
			}
		}
	}
}

// TestComesInOfWhatIsNotRight has each wrong one in each place, beside right ones that let it in and beside wrong ones.
func TestComesInOfWhatIsNotRight(t *testing.T) {
	send, recv := waiting()
	door, top := doorWith().Label, labelOf(lv3)
	for name, m := range wrongMsgs() {
		checkStaysOut(t, name, m, send, recv, door)
		checkStaysOut(t, name, m, labelOf(star), top, top)
	}
	for _, m := range append(byName(inMsgs()), impl.Msg{}) {
		for _, from := range []int64{-1, 4} {
			other := m
			other.From = from
			checkStaysOut(t, "a From that is none", other, send, recv, door)
		}
		for _, value := range []int64{-1, 1000000} {
			other := m
			other.Value = value
			checkStaysOut(t, "a Value that is none", other, send, recv, door)
		}
		for name, wrong := range wrongLabels() {
			checkStaysOut(t, "send is "+name, m, wrong, recv, door)
			checkStaysOut(t, "recv is "+name, m, send, wrong, door)
			checkStaysOut(t, "door is "+name, m, send, recv, wrong)
			checkStaysOut(t, "send and recv are "+name, m, wrong, wrong, door)
			checkStaysOut(t, "all are "+name, m, wrong, wrong, wrong)
			for place := range msgLabels(&m) {
				other := m
				*msgLabels(&other)[place] = wrong
				checkStaysOut(t, place+" is "+name, other, send, recv, door)
			}
		}
	}
}

func TestPassedOfNone(t *testing.T) {
	for _, d := range rightDoors() {
		d.Queue = nil
		for _, l := range rightLabels() {
			checkPassed(t, "nil", d, l, labelOf(lv2), d, impl.Msg{}, false)
			checkPassed(t, "nil", d, labelOf(lv1), l, d, impl.Msg{}, false)
			d.Queue = []impl.Msg{}
		}
	}
}

// TestPassedOfOne has each that comes in and each that does not, alone in the queue.
func TestPassedOfOne(t *testing.T) {
	send, recv := waiting()
	for from := range int64(4) {
		for name, m := range inMsgs() {
			m.From = from
			checkPassed(t, name, doorWith(m), send, recv, doorWith(), m, true)
		}
		for name, m := range outMsgs() {
			m.From = from
			checkPassed(t, name, doorWith(m), send, recv, doorWith(), impl.Msg{}, false)
		}
	}
}

// TestPassedByEachPattern has all queues of up to seven, of such as come in and such as don't: none, all, the first, the last, one in the middle and so on.
func TestPassedByEachPattern(t *testing.T) {
	send, recv := waiting()
	for n := range 8 {
		for pattern := range 1 << n {
			for turn := range 9 {
				d := doorWith(patternQueue(pattern, n, turn)...)
				first := 0
				for first < n && pattern>>first&1 == 0 {
					first++
				}
				if first == n {
					checkPassed(t, "none comes in", d, send, recv, doorWith(), impl.Msg{}, false)
				} else {
					checkPassed(t, "one comes in", d, send, recv, doorWith(d.Queue[first+1:]...), d.Queue[first], true)
				}
			}
		}
	}
}

// TestPassedByFullQueues has the only one that comes in, or the first of some, at each of twelve places.
func TestPassedByFullQueues(t *testing.T) {
	send, recv := waiting()
	for turn := range 9 {
		for at := range 12 {
			for _, behind := range []int{0, 0xfff, 0x555, 0xaaa} {
				d := doorWith(patternQueue(1<<at|behind<<(at+1), 12, turn)...)
				checkPassed(t, "full", d, send, recv, doorWith(d.Queue[at+1:]...), d.Queue[at], true)
			}
		}
		d := doorWith(patternQueue(0, 12, turn)...)
		checkPassed(t, "full, none comes in", d, send, recv, doorWith(), impl.Msg{}, false)
	}
}

// TestPassedTellsTheFirst has messages that are alike but for one thing: it is the first one that is told, whoever sent it and whatever it is.
func TestPassedTellsTheFirst(t *testing.T) {
	send, recv := waiting()
	for name, m := range inMsgs() {
		for from := range int64(4) {
			for _, values := range [][]int64{{5, 5, 5}, {1, 2, 3}, {3, 2, 1}, {0, 999999, 0}} {
				d := doorWith()
				for i, value := range values {
					m.From, m.Value = (from+int64(i)*from)%4, value
					d.Queue = append(d.Queue, m)
				}
				checkPassed(t, name, d, send, recv, doorWith(d.Queue[1:]...), d.Queue[0], true)
			}
		}
	}
}

// TestPassedAgainAndAgain takes off one behind the other: all that come in are told, in order, each once.
func TestPassedAgainAndAgain(t *testing.T) {
	send, recv := waiting()
	for pattern := range 1 << 12 {
		queue := patternQueue(pattern, 12, pattern%9)
		d, told := doorWith(queue...), []impl.Msg{}
		for range 13 {
			left, m, is := impl.Passed(d, send, recv)
			if !is {
				break
			}
			d, told = left, append(told, m)
		}
		want := []impl.Msg{}
		for i, m := range queue {
			if pattern>>i&1 == 1 {
				want = append(want, m)
			}
		}
		if !slices.EqualFunc(told, want, equalMsgs) {
			t.Fatalf("pattern %b: %v, want %v", pattern, told, want)
		}
	}
}

// TestPassedAtTheDoorsOwnLabel has the same queue at doors of several labels; both the message's Eff and its Raise are held against them.
func TestPassedAtTheDoorsOwnLabel(t *testing.T) {
	queue := places([]impl.Msg{
		msgOf(labelOf(lv2), impl.NoTerms()),
		msgOf(labelOf(lv1, 5, lv2), impl.NoTerms()),
		msgOf(labelOf(lv0), termsOf(labelOf(lv3), labelOf(star, 6, lv2))),
		msgOf(labelOf(lv1), impl.NoTerms()),
		msgOf(labelOf(lv0), impl.NoTerms()),
		msgOf(labelOf(star), impl.NoTerms()),
	})
	for _, c := range []struct {
		name  string
		label impl.Label
		at    int
	}{
		{"all is let", labelOf(lv3), 0},
		{"just the first is let", labelOf(lv2), 0},
		{"one handle is shut", labelOf(lv3, 9, lv1), 1},
		{"another one is shut", labelOf(lv3, 5, lv1), 2},
		{"both are shut", labelOf(lv3, 5, lv1, 6, lv1), 3},
		{"but for one all is shut", labelOf(lv1, 5, lv3), 1},
		{"but for the other one all is shut", labelOf(lv1, 6, lv3), 2},
		{"all is shut a bit", labelOf(lv1), 3},
		{"all is shut more", labelOf(lv0), 4},
		{"one handle is shut more", labelOf(lv3, 9, lv0), 2},
		{"another handle is shut more", labelOf(lv3, 6, lv0), 4},
		{"one handle is shut altogether", labelOf(lv3, 9, star), 5},
		{"all is shut altogether", labelOf(star), 5},
	} {
		for _, handle := range []int64{0, 102, 308} {
			d := impl.Door{Handle: handle, Label: c.label, Queue: queue}
			wantDoor, wantMsg, is := wantedPassed(d, labelOf(lv1), labelOf(lv2))
			if !is || wantMsg.Value != int64(1000+c.at) {
				t.Errorf("%s: the tables tell %v, want the one at %d", c.name, wantMsg, c.at)
			}
			checkPassed(t, c.name, d, labelOf(lv1), labelOf(lv2), wantDoor, wantMsg, true)
		}
	}
}

// TestPassedIntoShutDoors has who was let behind those who were not.
func TestPassedIntoShutDoors(t *testing.T) {
	everyOrigin(func(_, _, handle int64) {
		let, kept := msgOf(labelOf(lv1, handle, lv0), impl.NoTerms()), msgOf(labelOf(lv1), impl.NoTerms())
		for _, made := range []impl.Door{impl.OpenDoor(handle), impl.ShutDoor(handle)} {
			d := made
			for _, m := range places([]impl.Msg{kept, kept, let, kept, let}) {
				d = impl.Queued(d, m)
			}
			at := 2
			if equalLabels(made.Label, labelOf(lv3)) {
				at = 0
			}
			want := made
			want.Queue = d.Queue[at+1:]
			checkPassed(t, "at a made door", d, labelOf(lv1), labelOf(lv2), want, d.Queue[at], true)
		}
	})
}

// TestWhatIsPassedByLeavesNothing has a message that would raise, clear or bring, but is passed by: the next ones are asked as if it had not been there.
func TestWhatIsPassedByLeavesNothing(t *testing.T) {
	top := labelOf(lv3)
	raises := msgOf(labelOf(lv0, 6, lv3), termsOf(top, labelOf(star, 5, lv3)))
	needsRaise := msgOf(labelOf(lv0, 5, lv3), impl.NoTerms())
	checkPassed(t, "it would raise", doorWith(raises, needsRaise), labelOf(lv1), labelOf(lv2), doorWith(), impl.Msg{}, false)

	brings := msgOf(apart(lv0, 8, lv2, 500), verified(labelOf(star)))
	bringsOne := msgOf(labelOf(lv0, 5, lv2), impl.NoTerms())
	checkPassed(t, "it would bring", doorWith(brings, bringsOne), labelOf(lv1), labelOf(lv2), doorWith(), bringsOne, true)

	full := apart(lv1, 8, lv3, 100)
	clears := msgOf(labelOf(lv0), impl.Terms{Clear: labelOf(lv3, 100, lv1)})
	checkPassed(t, "it would clear", doorWith(clears, bringsOne), full, labelOf(lv2), doorWith(), impl.Msg{}, false)
	clears.Terms.Verify = top
	checkPassed(t, "it does clear, but not for the next one", doorWith(clears, bringsOne), full, labelOf(lv2), doorWith(bringsOne), clears, true)
}

// TestPassedOfEveryHandle holds the answers against tables of all handles.
func TestPassedOfEveryHandle(t *testing.T) {
	labels, msgs := mixedLabels(), slices.Concat(rightMsgs(), byName(inMsgs()), byName(outMsgs()))
	n := len(labels)
	told := map[bool]int{}
	for i, send := range labels {
		for j := range 24 {
			queue := []impl.Msg{}
			for k := range j % 13 {
				m := msgs[(11*i+17*j+29*k)%len(msgs)]
				m.Terms.Taint = labels[(i+k)%n]
				if k%3 != 0 {
					m.Terms.Raise, m.Terms.Verify = labelOf(star, 5, lv2), labelOf(lv3)
				}
				queue = append(queue, m)
			}
			d := impl.Door{Handle: int64(100*(i%4) + j%9), Label: labels[(5*i+j)%n], Queue: places(queue)}
			if j%2 == 0 {
				d.Label = labelOf(lv3)
			}
			recv := labels[(3*i+7*j)%n]
			wantDoor, wantMsg, want := wantedPassed(d, send, recv)
			checkPassed(t, "mixed labels", d, send, recv, wantDoor, wantMsg, want)
			if len(wantDoor.Queue)+1 < len(queue) {
				told[want]++
			}
		}
	}
	if told[true] < 200 || told[false] < 200 {
		t.Errorf("behind others, one came in %d times and none %d times", told[true], told[false])
	}
}

// TestOthersWhoMayNotComeInChangeNothing puts up to six messages that may not come in, of two others, between those of the rest, wherever there is a place: which of the rest comes in stays, and what is left of the rest.
func TestOthersWhoMayNotComeInChangeNothing(t *testing.T) {
	send, recv := waiting()
	out := byName(outMsgs())
	ofRest := func(m impl.Msg) bool { return m.From < 2 }
	for pattern := range 1 << 5 {
		rest := patternQueue(pattern, 5, pattern%9)
		for i := range rest {
			rest[i].From = int64(i % 2)
		}
		wantDoor, wantMsg, want := impl.Passed(doorWith(rest...), send, recv)
		for where := range 729 {
			queue := slices.Clone(rest)
			for k, at := 0, where; k <= where%6; k, at = k+1, at/3 {
				m := out[(where+2*k)%len(out)]
				m.From, m.Value = int64(2+k%2), int64(2000+k)
				queue = slices.Insert(queue, (at%3*2+k)%(len(queue)+1), m)
			}
			gotDoor, gotMsg, got := impl.Passed(doorWith(queue...), send, recv)
			left := slices.DeleteFunc(slices.Clone(gotDoor.Queue), func(m impl.Msg) bool { return !ofRest(m) })
			if got != want || !equalMsgs(gotMsg, wantMsg) || !slices.EqualFunc(left, wantDoor.Queue, equalMsgs) {
				t.Fatalf("with others %v: %v, %v, %v, and without %v, %v, %v", queue, gotDoor, gotMsg, got, wantDoor, wantMsg, want)
			}
		}
	}
}

// TestOthersWhoSendMoreChangeNothing queues what one sends between ever more of another who may not come in, and hands it over.
func TestOthersWhoSendMoreChangeNothing(t *testing.T) {
	send, recv := waiting()
	low := byName(inMsgs())
	for name, high := range outMsgs() {
		high.From = 3
		for times := range 9 {
			d, want := doorWith(), []int64{1000, 1001, 1002}
			for _, m := range places(slices.Clone(low[:5])) {
				m.From = 0
				for range times {
					d = impl.Queued(d, high)
				}
				d = impl.Queued(d, m)
			}
			values := []int64{}
			for range 5 {
				left, m, is := impl.Passed(d, send, recv)
				if d = left; is {
					values = append(values, m.Value)
				}
				for range times {
					d = impl.Queued(d, high)
				}
			}
			if !slices.Equal(values, want) {
				t.Errorf("%s, %d times ahead of each: %v came in, want %v", name, times, values, want)
			}
		}
	}
}

func TestPassedOfWhatIsNotRight(t *testing.T) {
	send, recv := waiting()
	in := inMsgs()["a plain one"]
	for name, d := range wrongDoors() {
		checkPassed(t, name, d, send, recv, impl.Door{}, impl.Msg{}, false)
		checkPassed(t, name, d, labelOf(star), labelOf(lv3), impl.Door{}, impl.Msg{}, false)
		d.Queue = append([]impl.Msg{in}, d.Queue...)
		checkPassed(t, name+", behind one that comes in", d, send, recv, impl.Door{}, impl.Msg{}, false)
	}
	doors := []impl.Door{{}, doorWith(), doorWith(in), doorWith(in, in), doorWith(byName(outMsgs())[0], in), doorWith(byName(outMsgs())[:3]...), doorWith(fullQueue()...)}
	for name, wrong := range wrongLabels() {
		for _, d := range doors {
			checkPassed(t, "send is "+name, d, wrong, recv, impl.Door{}, impl.Msg{}, false)
			checkPassed(t, "recv is "+name, d, send, wrong, impl.Door{}, impl.Msg{}, false)
			checkPassed(t, "both are "+name, d, wrong, wrong, impl.Door{}, impl.Msg{}, false)
			d.Label = wrong
			checkPassed(t, "the Label is "+name, d, send, recv, impl.Door{}, impl.Msg{}, false)
			checkPassed(t, "all are "+name, d, wrong, wrong, impl.Door{}, impl.Msg{}, false)
		}
	}
}

// memory is all lists that some values hold, each with the spare room behind it.
type memory struct {
	parts  [][]impl.Part
	queues [][]impl.Msg
}

func (y *memory) addLabels(labels ...impl.Label) {
	for _, l := range labels {
		y.parts = append(y.parts, l.Parts[:cap(l.Parts)])
	}
}

func (y *memory) addMsg(m impl.Msg) {
	for _, l := range msgLabels(&m) {
		y.addLabels(*l)
	}
}

func (y *memory) addDoor(d impl.Door) {
	y.addLabels(d.Label)
	y.queues = append(y.queues, d.Queue[:cap(d.Queue)])
	for _, m := range d.Queue[:cap(d.Queue)] {
		y.addMsg(m)
	}
}

// mark writes over all of it: from that number on, each list has the next one, or the same one if all are alike.
func (y *memory) mark(from int64, alike bool) {
	for _, list := range y.parts {
		spoil(list, impl.Part{Handle: -from, Level: -from})
		if !alike {
			from++
		}
	}
	for _, list := range y.queues {
		spoil(list, impl.Msg{From: -from})
		if !alike {
			from++
		}
	}
}

// marked tells whether mark was the last to write into any of it.
func (y *memory) marked(from int64, alike bool) bool {
	for _, list := range y.parts {
		if slices.ContainsFunc(list, func(p impl.Part) bool { return p.Handle != -from }) {
			return false
		}
		if !alike {
			from++
		}
	}
	for _, list := range y.queues {
		if slices.ContainsFunc(list, func(m impl.Msg) bool { return m.From != -from }) {
			return false
		}
		if !alike {
			from++
		}
	}
	return true
}

// checkApart tells whether no list of the answers shares memory with another one of them, or with one of the arguments. The arguments may share theirs. It writes over all of it.
func checkApart(t *testing.T, name string, arguments, answers memory) {
	t.Helper()
	arguments.mark(7, true)
	answers.mark(100, false)
	if !arguments.marked(7, true) {
		t.Errorf("%s: an answer shares memory with an argument", name)
	}
	if !answers.marked(100, false) {
		t.Errorf("%s: two lists of the answers share memory", name)
	}
}

// heldDoor is a door with spare room behind all its lists.
func heldDoor(d impl.Door) impl.Door {
	d.Label, _ = heldLabel(d.Label)
	d.Queue = heldMsgs(d.Queue)
	return d
}

// sharingDoor has the same memory in all its labels, and sharingMsg in all of its.
func sharingDoor(l impl.Label, froms ...int64) impl.Door {
	d := impl.Door{Handle: 102, Label: l}
	for _, who := range froms {
		d.Queue = append(d.Queue, sharingMsg(l, who))
	}
	return d
}

func sharingMsg(l impl.Label, who int64) impl.Msg {
	return impl.Msg{From: who, Value: 7, Eff: l, Terms: impl.Terms{Taint: l, Clear: l, Raise: l, Verify: l}}
}

// memoryDoors have empty queues, queues with room, full ones, and such as share memory among them.
func memoryDoors() []impl.Door {
	l, _ := heldLabel(labelOf(lv1, 5, lv2, 6, lv0))
	all := []impl.Door{sharingDoor(l), sharingDoor(l, 1), sharingDoor(l, 1, 1, 1), sharingDoor(l, 0, 1, 2, 3, 0, 1)}
	for _, d := range []impl.Door{doorWith(), doorWith(queueFrom(2)...), doorWith(queueFrom(1, 1, 1)...), doorWith(fullQueue()...)} {
		all = append(all, d, heldDoor(d))
	}
	for turn := range 9 {
		all = append(all, heldDoor(doorWith(patternQueue(4, 6, turn)...)), heldDoor(doorWith(patternQueue(0, 6, turn)...)))
	}
	return all
}

// memoryMsgs are made anew by each call.
func memoryMsgs() []impl.Msg {
	l, _ := heldLabel(labelOf(lv1, 5, lv2, 6, lv0))
	return append(heldMsgs(append(queueFrom(1, 2), impl.Msg{}, impl.Msg{From: 3, Terms: impl.NoTerms()})), sharingMsg(l, 1), sharingMsg(l, 0))
}

func TestQueuedIsNewMemory(t *testing.T) {
	for i := range memoryDoors() {
		for j := range memoryMsgs() {
			d, m := memoryDoors()[i], memoryMsgs()[j]
			if len(d.Queue) > 0 && j == 4 { // the same memory behind d and m
				m = d.Queue[0]
			}
			var arguments, answers memory
			arguments.addDoor(d)
			arguments.addMsg(m)
			want := wantedQueued(d, m)
			for range 2 {
				got := impl.Queued(d, m)
				if !equalDoors(got, want) {
					t.Errorf("Queued(%v, %v) = %v, want %v", d, m, got, want)
				}
				answers.addDoor(got)
			}
			checkApart(t, "Queued", arguments, answers)
		}
	}
}

func TestComesInIsNewMemory(t *testing.T) {
	told := 0
	labels := rightLabels()
	for i := range labels {
		for j := range labels {
			for _, m := range append(byName(inMsgs()), memoryMsgs()...) {
				send, _ := heldLabel(labels[i])
				recv, _ := heldLabel(labels[j])
				if i == j {
					recv = send
				}
				door, _ := heldLabel(labelOf(lv3))
				var arguments, answers memory
				arguments.addLabels(send, recv, door)
				arguments.addMsg(m)
				for range 2 {
					thenSend, thenRecv, is := impl.ComesIn(m, send, recv, door)
					answers.addLabels(thenSend, thenRecv)
					if is && len(thenSend.Parts) > 0 && len(thenRecv.Parts) > 0 {
						told++
					}
				}
				checkApart(t, "ComesIn", arguments, answers)
			}
		}
	}
	if told < 200 {
		t.Errorf("only %d times both have parts", told)
	}
}

// TestComesInOfOneLabelInAllPlaces gives the same memory everywhere; the answers equal it.
func TestComesInOfOneLabelInAllPlaces(t *testing.T) {
	for _, l := range rightLabels() {
		held, _ := heldLabel(l)
		send, recv, is := impl.ComesIn(sharingMsg(held, 1), held, held, held)
		if !is || !equalLabels(send, l) || !equalLabels(recv, l) {
			t.Errorf("ComesIn of %v everywhere = %v, %v, %v, want the same", l, send, recv, is)
		}
		var arguments, answers memory
		arguments.addLabels(held)
		answers.addLabels(send, recv)
		checkApart(t, "ComesIn", arguments, answers)
	}
}

func TestPassedIsNewMemory(t *testing.T) {
	told := map[bool]int{}
	for i := range memoryDoors() {
		for j, recvs := range []impl.Label{{}, labelOf(lv1, 5, lv2, 6, lv0), labelOf(lv2, 9, lv3), apart(lv2, 6, lv3, 100), labelOf(lv3)} {
			d := memoryDoors()[i]
			send, _ := heldLabel(apart(lv1, 6, lv3, 100))
			recv, _ := heldLabel(recvs)
			if j == 1 {
				send, recv = d.Label, d.Label
			}
			wantDoor, wantMsg, want := wantedPassed(d, send, recv)
			var arguments, answers memory
			arguments.addDoor(d)
			arguments.addLabels(send, recv)
			for range 2 {
				gotDoor, gotMsg, got := impl.Passed(d, send, recv)
				if got != want || !equalDoors(gotDoor, wantDoor) || !equalMsgs(gotMsg, wantMsg) {
					t.Errorf("Passed(%v, %v, %v) = %v, %v, %v, want %v, %v, %v", d, send, recv, gotDoor, gotMsg, got, wantDoor, wantMsg, want)
				}
				answers.addDoor(gotDoor)
				answers.addMsg(gotMsg)
				told[got]++
			}
			checkApart(t, "Passed", arguments, answers)
		}
	}
	if told[true] < 20 || told[false] < 20 {
		t.Errorf("one came in %d times, none %d times", told[true], told[false])
	}
}

// TestArgumentsOfQueuesStay holds the Queue, the Parts of all labels and the spare rooms behind them against copies, of right doors and wrong ones.
func TestArgumentsOfQueuesStay(t *testing.T) {
	labels, msgs := anyLabels(), append(rightMsgs(), byName(wrongMsgs())...)
	queues := anyQueues()
	for turn := range 9 {
		queues = append(queues, patternQueue(0x28, 8, turn), patternQueue(0, 5, turn), patternQueue(1, 1, turn))
	}
	for i, queue := range queues {
		for j, handle := range []int64{0, 102, 308, 9} {
			label, labelRoom := heldLabel([]impl.Label{labelOf(lv3, 900, lv0), labelOf(lv3), labels[(i+7*j)%len(labels)]}[(i+j)%3])
			send, sendRoom := heldLabel([]impl.Label{apart(lv1, 6, lv3, 100), labels[(5*i+j)%len(labels)]}[i%2])
			recv, recvRoom := heldLabel([]impl.Label{apart(lv2, 6, lv3, 100), labels[(3*i+j)%len(labels)]}[j%2])
			held, m := heldMsgs(queue), heldMsgs([]impl.Msg{msgs[(31*i+j)%len(msgs)]})
			rooms := [][]impl.Part{labelRoom, sendRoom, recvRoom}
			copies := [][]impl.Part{slices.Clone(labelRoom), slices.Clone(sendRoom), slices.Clone(recvRoom)}
			heldCopy, msgCopy := wholeQueue(held), wholeQueue(m)
			d := impl.Door{Handle: handle, Label: label, Queue: held}
			for from := range int64(4) {
				other := m[0]
				other.From = from
				impl.Queued(d, other)
			}
			impl.Queued(d, m[0])
			impl.ComesIn(m[0], send, recv, label)
			for _, other := range held {
				impl.ComesIn(other, send, recv, label)
			}
			impl.Passed(d, send, recv)
			if !reflect.DeepEqual(wholeQueue(held), heldCopy) || !reflect.DeepEqual(wholeQueue(m), msgCopy) {
				t.Errorf("a Queue or a Msg was written into: %v, %v, want %v, %v", wholeQueue(held), wholeQueue(m), heldCopy, msgCopy)
			}
			for at, room := range rooms {
				if !slices.Equal(room, copies[at]) {
					t.Errorf("a label was written into: %v, want %v", room, copies[at])
				}
			}
		}
	}
}

// TestQueuesAreTheSameAgain asks behind other questions: nothing is kept from one to the next.
func TestQueuesAreTheSameAgain(t *testing.T) {
	send, recv := waiting()
	full, wrong := doorWith(fullQueue()...), doorWith(queueFrom(1, 1, 1, 1)...)
	for pattern := range 64 {
		d := doorWith(patternQueue(pattern, 6, pattern%9)...)
		wantDoor, wantMsg, want := wantedPassed(d, send, recv)
		for from := range int64(4) {
			m := msgFrom(from, 70)
			checkQueued(t, "full", full, m, full)
			checkQueued(t, "wrong", wrong, m, impl.Door{})
			checkQueued(t, "again", d, m, wantedQueued(d, m))
			checkPassed(t, "wrong", wrong, send, recv, impl.Door{}, impl.Msg{}, false)
			checkPassed(t, "again", d, send, recv, wantDoor, wantMsg, want)
		}
	}
}
