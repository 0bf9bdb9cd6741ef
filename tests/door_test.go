package tests

import (
	"maps"
	"math"
	"reflect"
	"slices"
	"testing"

	"loop.example/g00805/impl"
)

// valuesOutside are none of a message. Some of them are one when they are cut to fewer bits, or but for the sign.
var valuesOutside = []int64{
	-1, -2, -5, -100, -999999, -1000000, -1 << 32, 5 - 1<<32, math.MinInt32, math.MinInt64, math.MinInt64 + 1, math.MinInt64 + 5,
	1000000, 1000001, 1000005, 1999999, 1 << 20, 1 << 24, 1 << 32, 1<<32 + 5, 1 << 62, math.MaxInt32, math.MaxInt64 - 1, math.MaxInt64,
}

// msgFrom is right where who is one; it bears labels that have parts.
func msgFrom(who, value int64) impl.Msg {
	return impl.Msg{From: who, Value: value, Eff: labelOf(lv1, 5, lv2), Terms: termsOf(labelOf(lv3, 5, lv0), labelOf(star, 9, lv2))}
}

// queueFrom has a message of each of those, in order, each with a value of its own.
func queueFrom(froms ...int64) []impl.Msg {
	queue := []impl.Msg{}
	for i, who := range froms {
		queue = append(queue, msgFrom(who, int64(i)))
	}
	return queue
}

// msgLabels are the five labels of a Msg, by name.
func msgLabels(m *impl.Msg) map[string]*impl.Label {
	labels := termsPlaces(&m.Terms)
	labels["Eff"] = &m.Eff
	return labels
}

// rightMsgs are some that are right: at all limits, and with each right label in each place.
func rightMsgs() []impl.Msg {
	all := []impl.Msg{{}, {From: impl.MaxProcs - 1, Value: impl.MaxValue}, {Terms: impl.NoTerms()}, msgFrom(1, 70)}
	labels := rightLabels()
	for i, l := range labels {
		for j, terms := range rightTerms() {
			all = append(all, impl.Msg{From: int64((i + j) % 4), Value: int64(71428 * i), Eff: l, Terms: terms})
		}
	}
	return all
}

// wrongMsgs are right but for one thing each, so that no other rule refuses them.
func wrongMsgs() map[string]impl.Msg {
	wrong := map[string]impl.Msg{
		"a From one below the least":     msgFrom(-1, 70),
		"a From one above the greatest":  msgFrom(impl.MaxProcs, 70),
		"a From at the bottom":           msgFrom(math.MinInt64, 70),
		"a From at the top":              msgFrom(math.MaxInt64, 70),
		"a From that is one when cut":    msgFrom(1<<32+1, 70),
		"a Value one below the least":    msgFrom(1, -1),
		"a Value one above the greatest": msgFrom(1, impl.MaxValue+1),
		"a Value at the bottom":          msgFrom(1, math.MinInt64),
		"a Value at the top":             msgFrom(1, math.MaxInt64),
		"a Value that is one when cut":   msgFrom(1, 1<<32+5),
	}
	m := msgFrom(1, 70)
	for place := range msgLabels(&m) {
		for name, l := range wrongLabels() {
			other := m
			*msgLabels(&other)[place] = l
			wrong[place+" is "+name] = other
		}
	}
	return wrong
}

// rightDoors have each handle that has a maker, and labels and queues that go round.
func rightDoors() []impl.Door {
	labels := rightLabels()
	queues := rightQueues()
	all := []impl.Door{{}}
	for i, handle := range slices.Concat(handlesByMaker...) {
		for j := range 3 {
			all = append(all, impl.Door{Handle: handle, Label: labels[(i+5*j)%len(labels)], Queue: queues[(i+j)%len(queues)]})
		}
	}
	return all
}

func rightQueues() [][]impl.Msg {
	return [][]impl.Msg{
		nil,
		{},
		{{}},
		{{}, {}, {}},
		queueFrom(3),
		queueFrom(0, 1, 2, 3),
		queueFrom(2, 2, 2),
		queueFrom(1, 0, 1, 2, 1),
		fullQueue(),
	}
}

// fullQueue has MaxShare messages of each.
func fullQueue() []impl.Msg { return queueFrom(0, 1, 2, 3, 3, 2, 1, 0, 2, 0, 3, 1) }

// heldMsgs is a queue with spare room behind it that is filled, and with labels whose parts have such room.
func heldMsgs(queue []impl.Msg) []impl.Msg {
	room := []impl.Msg{}
	for _, m := range queue {
		for _, l := range msgLabels(&m) {
			*l, _ = heldLabel(*l)
		}
		room = append(room, m)
	}
	for i := range int64(5) {
		room = append(room, msgFrom(i%4, 700+i))
	}
	return room[:len(queue):len(room)]
}

// wholeQueue is a copy of a queue that shares nothing with it: the spare rooms, too, are told.
func wholeQueue(queue []impl.Msg) []impl.Msg {
	copied := slices.Clone(queue[:cap(queue)])
	for i := range copied {
		for _, l := range msgLabels(&copied[i]) {
			*l = wholeLabel(*l)
		}
	}
	return copied
}

func wholeLabel(l impl.Label) impl.Label {
	return impl.Label{Base: l.Base, Parts: slices.Clone(l.Parts[:cap(l.Parts)])}
}

func isZeroDoor(d impl.Door) bool {
	return d.Handle == 0 && isZeroLabel(d.Label) && len(d.Queue) == 0
}

func checkMsg(t *testing.T, name string, m impl.Msg, want bool) {
	t.Helper()
	if got := impl.MsgOk(m); got != want {
		t.Errorf("%s: MsgOk(%v) = %v, want %v", name, m, got, want)
	}
}

func checkDoor(t *testing.T, name string, d impl.Door, want bool) {
	t.Helper()
	if got := impl.DoorOk(d); got != want {
		t.Errorf("%s: DoorOk(%v) = %v, want %v", name, d, got, want)
	}
}

func TestLimitsOfDoors(t *testing.T) {
	if impl.MaxValue != 999999 || impl.MaxShare != 3 {
		t.Errorf("MaxValue is %d and MaxShare %d, want 999999 and 3", impl.MaxValue, impl.MaxShare)
	}
}

func TestMsgOk(t *testing.T) {
	for _, m := range rightMsgs() {
		checkMsg(t, "right", m, true)
	}
	for name, m := range wrongMsgs() {
		checkMsg(t, name, m, false)
	}
}

// TestMsgOkAtItsLimits has From and Value at the least and the greatest, and one beside, in each way.
func TestMsgOkAtItsLimits(t *testing.T) {
	froms := map[int64]bool{-1: false, 0: true, 1: true, 2: true, 3: true, 4: false}
	values := map[int64]bool{-1: false, 0: true, 1: true, 999998: true, 999999: true, 1000000: false}
	for from, fromOk := range froms {
		for value, valueOk := range values {
			checkMsg(t, "with labels", msgFrom(from, value), fromOk && valueOk)
			checkMsg(t, "with no labels", impl.Msg{From: from, Value: value}, fromOk && valueOk)
		}
	}
}

func TestMsgOkOfEveryFrom(t *testing.T) {
	for from := int64(-1100); from <= 1100; from++ {
		checkMsg(t, "From", msgFrom(from, 70), 0 <= from && from < 4)
		checkMsg(t, "From", impl.Msg{From: from}, 0 <= from && from < 4)
	}
	for _, from := range whosOutside {
		for _, value := range []int64{0, 1, 999999} {
			checkMsg(t, "From far away", msgFrom(from, value), false)
		}
	}
}

func TestMsgOkOfEveryValue(t *testing.T) {
	for value := int64(-1000); value <= 1001000; value++ {
		checkMsg(t, "Value", impl.Msg{From: value & 3, Value: value}, 0 <= value && value <= 999999)
	}
	for _, value := range valuesOutside {
		for from := range int64(4) {
			checkMsg(t, "Value far away", msgFrom(from, value), false)
		}
	}
}

// TestMsgOkOfEachLabel has each label, right and wrong, in each of the five places.
func TestMsgOkOfEachLabel(t *testing.T) {
	for _, m := range []impl.Msg{{}, {Terms: impl.NoTerms()}, msgFrom(3, 999999)} {
		for place := range msgLabels(&m) {
			for _, l := range anyLabels() {
				other := m
				*msgLabels(&other)[place] = l
				checkMsg(t, place, other, impl.LabelOk(l))
			}
		}
	}
}

// TestMsgOkAsksForNoOrder has labels that no door would let in, that nobody could say, and that are at odds: that is of no matter here.
func TestMsgOkAsksForNoOrder(t *testing.T) {
	all := []impl.Label{labelOf(star), labelOf(lv3), labelOf(star, 5, lv3), labelOf(lv3, 5, star)}
	for n := range 1024 {
		m := impl.Msg{From: int64(n % 4), Value: int64(n)}
		for _, place := range slices.Sorted(maps.Keys(msgLabels(&m))) {
			*msgLabels(&m)[place] = all[n%4]
			n /= 4
		}
		checkMsg(t, "no order", m, true)
	}
}

// TestMsgOkOfSeveralThatAreNotRight has all sets of the seven fields that are not right, so that two wrong ones can't make up for each other.
func TestMsgOkOfSeveralThatAreNotRight(t *testing.T) {
	for name, wrong := range wrongLabels() {
		for fields := range 128 {
			m := msgFrom(2, 7)
			if fields&1 != 0 {
				m.From = 4
			}
			if fields&2 != 0 {
				m.Value = -1
			}
			for i, place := range []string{"Eff", "Taint", "Clear", "Raise", "Verify"} {
				if fields&(4<<i) != 0 {
					*msgLabels(&m)[place] = wrong
				}
			}
			checkMsg(t, name, m, fields == 0)
		}
	}
}

func TestDoorOk(t *testing.T) {
	for _, d := range rightDoors() {
		checkDoor(t, "right", d, true)
	}
	checkDoor(t, "the zero Door", impl.Door{}, true)
}

// TestDoorOkOfEveryHandle has those that have a maker and those that have none, beside labels and queues of some kinds.
func TestDoorOkOfEveryHandle(t *testing.T) {
	others := []impl.Door{{}, {Label: fullLabel()}, {Label: labelOf(lv3, 999, star), Queue: fullQueue()}, {Queue: queueFrom(0, 0, 0)}}
	check := func(handle int64) {
		for _, d := range others {
			d.Handle = handle
			checkDoor(t, "every handle", d, wantedMaker(handle) != -1)
		}
	}
	for handle := int64(-1100); handle <= 2000; handle++ {
		check(handle)
	}
	for _, handle := range slices.Concat(handlesOutside, whosOutside, countsOutside) {
		if handle < -1100 || handle > 2000 {
			check(handle)
		}
	}
}

func TestDoorOkOfHandlesWithNoMaker(t *testing.T) {
	for name, handles := range map[string][]int64{
		"just behind a maker's last":   {9, 109, 209, 309},
		"between two makers":           {10, 50, 98, 99, 150, 199, 250, 299},
		"behind the last maker's":      {310, 399, 400, 408, 500, 999, 1000},
		"below 0":                      {-1, -2, -8, -92, -100, -108},
		"at the ends":                  {math.MinInt64, math.MaxInt64},
		"a maker's when cut":           {1 << 32, 1<<32 + 8, 308 - 1<<32, 1<<62 + 100},
		"a maker's, from the very end": {math.MinInt64 + 8, math.MinInt64 + 300},
	} {
		for _, handle := range handles {
			checkDoor(t, name, impl.Door{Handle: handle, Label: labelOf(lv3)}, false)
			checkDoor(t, name, impl.Door{Handle: handle, Label: labelOf(lv3), Queue: queueFrom(1, 2)}, false)
		}
	}
}

func TestDoorOkOfEachLabel(t *testing.T) {
	for _, queue := range rightQueues() {
		for _, handle := range []int64{0, 8, 102, 300, 308} {
			for _, l := range anyLabels() {
				checkDoor(t, "Label", impl.Door{Handle: handle, Label: l, Queue: queue}, impl.LabelOk(l))
			}
			for _, l := range mixedLabels() {
				checkDoor(t, "Label", impl.Door{Handle: handle, Label: l, Queue: queue}, true)
			}
		}
	}
}

// TestDoorOkOfWrongMsgs has each wrong one at the beginning, in the middle and at the end of queues; each From has room for one more.
func TestDoorOkOfWrongMsgs(t *testing.T) {
	queues := [][]impl.Msg{{}, queueFrom(1), queueFrom(0, 3), queueFrom(2, 1, 2), queueFrom(0, 1, 2, 3, 3, 2, 1, 0)}
	for name, wrong := range wrongMsgs() {
		for _, queue := range queues {
			for _, at := range []int{0, len(queue) / 2, len(queue)} {
				d := impl.Door{Handle: 102, Label: labelOf(lv3)}
				d.Queue = slices.Insert(slices.Clone(queue), at, msgFrom(1, 70))
				checkDoor(t, "a right one", d, true)
				d.Queue = slices.Insert(slices.Clone(queue), at, wrong)
				checkDoor(t, name, d, false)
			}
		}
	}
}

// TestDoorOkOfAWrongMsgAtEachPlace has a full queue, one of which is not right; the counts alone would do.
func TestDoorOkOfAWrongMsgAtEachPlace(t *testing.T) {
	for at := range fullQueue() {
		for field := range 7 {
			d := impl.Door{Handle: 208, Label: labelOf(lv3, 208, lv0), Queue: fullQueue()}
			m := &d.Queue[at]
			switch field {
			case 0:
				m.From = 4
			case 1:
				m.Value = 1000000
			default:
				place := []string{"Eff", "Taint", "Clear", "Raise", "Verify"}[field-2]
				*msgLabels(m)[place] = labelOf(lv1, 5, lv1)
			}
			checkDoor(t, "one of a full queue", d, false)
		}
	}
}

func TestDoorOkOfSeveralThatAreNotRight(t *testing.T) {
	for name, wrong := range wrongLabels() {
		for fields := range 16 {
			d := impl.Door{Handle: 102, Label: labelOf(lv3), Queue: queueFrom(1, 2, 1)}
			if fields&1 != 0 {
				d.Handle = 109
			}
			if fields&2 != 0 {
				d.Label = wrong
			}
			if fields&4 != 0 {
				d.Queue[1].Eff = wrong
			}
			if fields&8 != 0 {
				d.Queue = append(d.Queue, queueFrom(1, 1)...)
			}
			checkDoor(t, name, d, fields == 0)
		}
	}
}

func TestDoorOkAtMaxShare(t *testing.T) {
	for name, c := range map[string]struct {
		froms []int64
		want  bool
	}{
		"one of one":                           {[]int64{1}, true},
		"two of one":                           {[]int64{1, 1}, true},
		"a share of one":                       {[]int64{1, 1, 1}, true},
		"a share and one more":                 {[]int64{1, 1, 1, 1}, false},
		"a share of the first":                 {[]int64{0, 0, 0}, true},
		"a share of the first, and one more":   {[]int64{0, 0, 0, 0}, false},
		"a share of the last":                  {[]int64{3, 3, 3}, true},
		"a share of the last, and one more":    {[]int64{3, 3, 3, 3}, false},
		"a share, others between":              {[]int64{2, 0, 2, 1, 3, 2}, true},
		"one more, others between":             {[]int64{2, 0, 2, 1, 3, 2, 0, 2}, false},
		"one more, at the beginning and end":   {[]int64{2, 2, 0, 1, 3, 2, 2}, false},
		"one more, then others":                {[]int64{2, 2, 2, 2, 0, 1, 3}, false},
		"one more, behind others":              {[]int64{0, 1, 3, 2, 2, 2, 2}, false},
		"four, of all":                         {[]int64{0, 1, 2, 3}, true},
		"shares of two":                        {[]int64{0, 0, 0, 1, 1, 1}, true},
		"shares of two, by turns":              {[]int64{1, 0, 1, 0, 1, 0}, true},
		"shares of two, by turns, one more":    {[]int64{1, 0, 1, 0, 1, 0, 1}, false},
		"shares of all, one behind the other":  {[]int64{0, 0, 0, 1, 1, 1, 2, 2, 2, 3, 3, 3}, true},
		"shares of all, by turns":              {[]int64{0, 1, 2, 3, 0, 1, 2, 3, 0, 1, 2, 3}, true},
		"shares of all, falling":               {[]int64{3, 3, 3, 2, 2, 2, 1, 1, 1, 0, 0, 0}, true},
		"shares of all, and one of the first":  {[]int64{0, 1, 2, 3, 0, 1, 2, 3, 0, 1, 2, 3, 0}, false},
		"shares of all, and one of the last":   {[]int64{0, 1, 2, 3, 0, 1, 2, 3, 0, 1, 2, 3, 3}, false},
		"one too many, of no more than twelve": {[]int64{0, 0, 0, 1, 1, 1, 2, 2, 2, 2, 3, 3}, false},
	} {
		d := impl.Door{Handle: 102, Label: labelOf(lv3), Queue: queueFrom(c.froms...)}
		checkDoor(t, name, d, c.want)
	}
}

// TestDoorOkOfEveryOrder has all queues of up to six messages, and some of each greater length.
func TestDoorOkOfEveryOrder(t *testing.T) {
	doors := []impl.Door{{}, {Handle: 203, Label: labelOf(lv3, 203, lv0)}}
	check := func(froms []int64) bool {
		counts, want := [4]int{}, true
		for _, who := range froms {
			counts[who]++
			want = want && counts[who] <= 3
		}
		for _, d := range doors {
			d.Queue = queueFrom(froms...)
			checkDoor(t, "every order", d, want)
		}
		return want
	}
	var all func(froms []int64)
	all = func(froms []int64) {
		check(froms)
		for who := int64(0); who < 4 && len(froms) < 6; who++ {
			all(append(slices.Clone(froms), who))
		}
	}
	all(nil)
	told, turn := map[bool]int{}, uint32(1)
	for i := range 20000 {
		froms := slices.Repeat([]int64{0, 1, 2, 3}, 3)
		for at := range froms {
			turn = turn*1664525 + 1013904223
			other := int(turn>>8) % (at + 1)
			froms[at], froms[other] = froms[other], froms[at]
		}
		froms = append(froms, int64(turn>>8)%4)
		if i%2 == 0 {
			froms[i%13] = int64(turn>>10) % 4
		}
		told[check(froms[:7+i%7])]++
	}
	if told[true] < 1000 || told[false] < 1000 {
		t.Errorf("%d are right and %d are not", told[true], told[false])
	}
}

// TestSharesAreCountedByFromAlone has messages that are alike but for the From, and those that are alike in the From alone.
func TestSharesAreCountedByFromAlone(t *testing.T) {
	d := impl.Door{Handle: 102, Label: labelOf(lv3)}
	for from := range int64(4) {
		alike, unlike := slices.Repeat([]impl.Msg{msgFrom(from, 7)}, 4), []impl.Msg{}
		for i, m := range rightMsgs()[:4] {
			m.From, m.Value = from, int64(1000*i)
			unlike = append(unlike, m)
		}
		for _, queue := range [][]impl.Msg{alike, unlike} {
			for n := range 5 {
				d.Queue = queue[:n]
				checkDoor(t, "of one From", d, n <= 3)
			}
			for at := range queue {
				d.Queue = slices.Clone(queue)
				d.Queue[at].From = (from + 1) % 4
				checkDoor(t, "one of them of another From", d, true)
			}
		}
	}
}

// TestSharesAreOfNoMakers has shares at each door: who has made it has no other share in it.
func TestSharesAreOfNoMakers(t *testing.T) {
	for _, handle := range slices.Concat(handlesByMaker...) {
		for from := range int64(4) {
			checkDoor(t, "a share", impl.Door{Handle: handle, Label: labelOf(lv3), Queue: queueFrom(from, from, from)}, true)
			checkDoor(t, "one more", impl.Door{Handle: handle, Label: labelOf(lv3), Queue: queueFrom(from, from, from, from)}, false)
		}
		checkDoor(t, "all shares", impl.Door{Handle: handle, Label: labelOf(lv3), Queue: fullQueue()}, true)
	}
}

func TestDoorOkOfLongQueues(t *testing.T) {
	for _, n := range []int{4, 5, 16, 256, 259, 100000} {
		for from := range int64(4) {
			d := impl.Door{Handle: 102, Queue: slices.Repeat([]impl.Msg{{From: from}}, n)}
			checkDoor(t, "of one", d, false)
		}
		d := impl.Door{Handle: 102, Queue: slices.Repeat(queueFrom(0, 1, 2, 3), n)}
		checkDoor(t, "of all", d, false)
		d.Queue[4*n-1].From = -1
		checkDoor(t, "of all, and none", d, false)
	}
}

func TestDoorOkOfNoQueue(t *testing.T) {
	for _, handle := range slices.Concat(handlesByMaker...) {
		checkDoor(t, "nil", impl.Door{Handle: handle, Label: labelOf(lv1)}, true)
		checkDoor(t, "empty", impl.Door{Handle: handle, Label: labelOf(lv1), Queue: []impl.Msg{}}, true)
		checkDoor(t, "empty, room behind it", impl.Door{Handle: handle, Label: labelOf(lv1), Queue: slices.Repeat([]impl.Msg{{From: -1}}, 20)[:0]}, true)
	}
	checkDoor(t, "nil, no maker", impl.Door{Handle: 9}, false)
	checkDoor(t, "empty, no maker", impl.Door{Handle: 9, Queue: []impl.Msg{}}, false)
}

// opening is OpenDoor or ShutDoor, and the label that is wanted of a door.
type opening struct {
	name  string
	of    func(handle int64) impl.Door
	label func(handle int64) impl.Label
}

func openings() []opening {
	return []opening{
		{"OpenDoor", impl.OpenDoor, func(handle int64) impl.Label { return labelOf(lv3) }},
		{"ShutDoor", impl.ShutDoor, func(handle int64) impl.Label { return labelOf(lv3, handle, lv0) }},
	}
}

func (o opening) check(t *testing.T, handle int64) {
	t.Helper()
	d := o.of(handle)
	if wantedMaker(handle) == -1 {
		if !isZeroDoor(d) {
			t.Errorf("%s(%d) = %v, want the zero Door", o.name, handle, d)
		}
		return
	}
	if d.Handle != handle || !equalLabels(d.Label, o.label(handle)) || len(d.Queue) != 0 {
		t.Errorf("%s(%d) = %v, want the Label %v and no Msgs", o.name, handle, d, o.label(handle))
	}
	checkDoor(t, o.name, d, true)
}

func TestDoorsOfEveryMaker(t *testing.T) {
	for _, o := range openings() {
		everyOrigin(func(who, n, handle int64) {
			o.check(t, handle)
			o.check(t, impl.HandleOf(who, n))
		})
	}
}

func TestDoorsOfEveryNumber(t *testing.T) {
	for _, o := range openings() {
		zero := 0
		for handle := int64(-2); handle <= 1001; handle++ {
			o.check(t, handle)
			if isZeroDoor(o.of(handle)) {
				zero++
			}
		}
		if zero != 1004-36 {
			t.Errorf("%s answers the zero Door %d times, want %d", o.name, zero, 1004-36)
		}
		for handle := int64(-3000); handle <= 3000; handle++ {
			o.check(t, handle)
		}
	}
}

func TestDoorsOfNumbersFarAway(t *testing.T) {
	for _, o := range openings() {
		for _, handle := range slices.Concat(handlesOutside, whosOutside, countsOutside) {
			o.check(t, handle)
		}
		for n := range int64(500) {
			o.check(t, math.MinInt64+n)
			o.check(t, math.MaxInt64-n)
		}
		everyOrigin(func(_, _, handle int64) {
			for _, bits := range []int{10, 16, 31, 32, 48, 62} {
				o.check(t, handle+1<<bits)
				o.check(t, handle-1<<bits)
			}
			o.check(t, handle+math.MinInt64)
			o.check(t, -handle)
		})
	}
}

// TestDoorsOfEveryHandle holds the labels against each handle there is.
func TestDoorsOfEveryHandle(t *testing.T) {
	everyOrigin(func(_, _, handle int64) {
		open, shut := impl.OpenDoor(handle), impl.ShutDoor(handle)
		for h := range int64(impl.MaxHandle + 1) {
			want := int64(lv3)
			if h == handle {
				want = lv0
			}
			if got := impl.LevelOf(open.Label, h); got != lv3 {
				t.Errorf("OpenDoor(%d) has level %d of handle %d, want %d", handle, got, h, lv3)
			}
			if got := impl.LevelOf(shut.Label, h); got != want {
				t.Errorf("ShutDoor(%d) has level %d of handle %d, want %d", handle, got, h, want)
			}
		}
	})
}

// comes tells whether what bears the label is accepted at a door by one who may hear all, on no terms; and whether it is by the order alone.
func comes(t *testing.T, eff impl.Label, d impl.Door) bool {
	t.Helper()
	accepted, atMost := impl.Accepts(eff, labelOf(lv3), impl.NoTerms(), d.Label), impl.AtMost(eff, d.Label)
	if accepted != atMost {
		t.Errorf("%v at the door %v: accepted %v, at most %v", eff, d, accepted, atMost)
	}
	return accepted
}

func checkComes(t *testing.T, name string, eff impl.Label, d impl.Door, want bool) {
	t.Helper()
	if got := comes(t, eff, d); got != want {
		t.Errorf("%s: %v comes into the door %d: %v, want %v", name, eff, d.Handle, got, want)
	}
}

// TestWhoIsLetIntoAShutDoor has each level of the door's handle, and each level of all others.
func TestWhoIsLetIntoAShutDoor(t *testing.T) {
	everyOrigin(func(_, _, handle int64) {
		shut := impl.ShutDoor(handle)
		for base := int64(star); base <= lv3; base++ {
			checkComes(t, "a plain label", impl.Plain(base), shut, base <= lv0)
			for level := int64(star); level <= lv3; level++ {
				eff, is := impl.With(impl.Plain(base), handle, level)
				if !is {
					t.Fatalf("With(Plain(%d), %d, %d) is false", base, handle, level)
				}
				checkComes(t, "that level of its handle", eff, shut, level <= lv0)
			}
		}
	})
}

// TestOthersAreNotAskedAtAShutDoor has each level of each other handle, where the door's own is let, and where it is not.
func TestOthersAreNotAskedAtAShutDoor(t *testing.T) {
	for _, handle := range []int64{0, 8, 100, 203, 308} {
		shut := impl.ShutDoor(handle)
		let, kept := labelOf(lv3, handle, lv0), labelOf(star, handle, lv1)
		checkComes(t, "let", let, shut, true)
		checkComes(t, "not let", kept, shut, false)
		for h := range int64(impl.MaxHandle + 1) {
			for level := int64(star); h != handle && level <= lv3; level++ {
				for _, own := range []int64{star, lv0, lv1, lv2, lv3} {
					eff, _ := impl.With(impl.Plain(lv2), handle, own)
					eff, _ = impl.With(eff, h, level)
					checkComes(t, "another handle", eff, shut, own <= lv0)
				}
			}
		}
	}
}

func TestAnOpenDoorHearsAll(t *testing.T) {
	everyOrigin(func(_, _, handle int64) {
		open := impl.OpenDoor(handle)
		for base := int64(star); base <= lv3; base++ {
			checkComes(t, "a plain label", impl.Plain(base), open, true)
			for level := int64(star); level <= lv3; level++ {
				eff, _ := impl.With(impl.Plain(base), handle, level)
				checkComes(t, "its own handle", eff, open, true)
			}
		}
		for _, eff := range mixedLabels() {
			checkComes(t, "mixed labels", eff, open, true)
		}
	})
}

// TestWhatIsRaisedAtADoor has what nobody may hear but who is raised: at a shut door not of its handle.
func TestWhatIsRaisedAtADoor(t *testing.T) {
	everyOrigin(func(_, _, handle int64) {
		for level := int64(star); level <= lv3; level++ {
			for _, at := range []int64{handle, 5 + handle/100*100, 999} {
				raise, _ := impl.With(impl.Plain(star), at, level)
				terms := termsOf(labelOf(lv3), raise)
				want := at != handle || level <= lv0
				if got := impl.Accepts(raise, labelOf(star), terms, impl.ShutDoor(handle).Label); got != want {
					t.Errorf("raised to %v at the shut door %d: %v, want %v", raise, handle, got, want)
				}
				if got := impl.Accepts(labelOf(star), labelOf(star), terms, impl.ShutDoor(handle).Label); got != want {
					t.Errorf("raised to %v for nothing at the shut door %d: %v, want %v", raise, handle, got, want)
				}
				if !impl.Accepts(raise, labelOf(star), terms, impl.OpenDoor(handle).Label) {
					t.Errorf("raised to %v at the open door %d: false, want true", raise, handle)
				}
			}
		}
	})
}

// TestDoorsAreNewMemory writes over one answer, its spare rooms and all, and looks at those ahead of it and behind it.
func TestDoorsAreNewMemory(t *testing.T) {
	for _, o := range openings() {
		for _, handle := range append(slices.Concat(handlesByMaker...), -1, 9, 400, math.MaxInt64) {
			first, second := o.of(handle), o.of(handle)
			spoil(second.Label.Parts, spoiled)
			spoil(second.Queue, msgFrom(-7, -7))
			second.Label.Parts = append(second.Label.Parts, spoiled)
			second.Queue = append(second.Queue, msgFrom(-7, -7))
			third := o.of(handle)
			for _, d := range []impl.Door{first, third} {
				want := impl.Door{}
				if wantedMaker(handle) != -1 {
					want = impl.Door{Handle: handle, Label: o.label(handle)}
				}
				if d.Handle != want.Handle || !equalLabels(d.Label, want.Label) || len(d.Queue) != 0 {
					t.Errorf("%s(%d) shares memory with another answer: %v", o.name, handle, d)
				}
				if slices.Contains(d.Label.Parts[:cap(d.Label.Parts)], spoiled) || hasFrom(d.Queue[:cap(d.Queue)], -7) {
					t.Errorf("%s(%d) shares spare room with another answer", o.name, handle)
				}
			}
		}
	}
}

func hasFrom(queue []impl.Msg, who int64) bool {
	return slices.ContainsFunc(queue, func(m impl.Msg) bool { return m.From == who })
}

// TestDoorsOfOtherHandlesAreNewMemory has doors of all handles, each written over, one behind the other.
func TestDoorsOfOtherHandlesAreNewMemory(t *testing.T) {
	for _, o := range openings() {
		doors := map[int64]impl.Door{}
		everyOrigin(func(_, _, handle int64) { doors[handle] = o.of(handle) })
		everyOrigin(func(_, _, handle int64) {
			if d := doors[handle]; d.Handle != handle || !equalLabels(d.Label, o.label(handle)) || len(d.Queue) != 0 {
				t.Errorf("%s(%d) shares memory with the door of another handle: %v", o.name, handle, d)
			}
			spoil(doors[handle].Label.Parts, spoiled)
			spoil(doors[handle].Queue, msgFrom(-7, -7))
		})
	}
}

// anyQueues are right ones and wrong ones: each wrong message behind, ahead of and between others, and shares that are passed.
func anyQueues() [][]impl.Msg {
	all := append(rightQueues(), queueFrom(1, 1, 1, 1), queueFrom(3, 0, 3, 0, 3, 0, 3), queueFrom(4, 3, 2, 1), append(fullQueue(), fullQueue()...))
	wrong := wrongMsgs()
	for i, name := range slices.Sorted(maps.Keys(wrong)) {
		queue := queueFrom(3, 1, 0, 1)
		all = append(all, slices.Insert(queue, i%5, wrong[name]))
	}
	return all
}

func TestArgumentsOfMsgsStay(t *testing.T) {
	wrong := wrongMsgs()
	all := rightMsgs()
	for _, name := range slices.Sorted(maps.Keys(wrong)) {
		all = append(all, wrong[name])
	}
	for _, m := range all {
		held := heldMsgs([]impl.Msg{m})
		copied := wholeQueue(held)
		impl.MsgOk(held[0])
		if got := wholeQueue(held); !reflect.DeepEqual(got, copied) {
			t.Errorf("an argument was written into: %v, want %v", got, copied)
		}
	}
}

// TestArgumentsOfDoorsStay holds the Queue, the Parts of all labels and the spare rooms behind them against copies.
func TestArgumentsOfDoorsStay(t *testing.T) {
	labels := anyLabels()
	for i, queue := range anyQueues() {
		for j, handle := range []int64{0, 102, 308, 9, -1} {
			label, room := heldLabel(labels[(i+7*j)%len(labels)])
			held := heldMsgs(queue)
			copied, roomCopied := wholeQueue(held), slices.Clone(room)
			impl.DoorOk(impl.Door{Handle: handle, Label: label, Queue: held})
			if got := wholeQueue(held); !reflect.DeepEqual(got, copied) {
				t.Errorf("a Queue was written into: %v, want %v", got, copied)
			}
			if !slices.Equal(room, roomCopied) {
				t.Errorf("a Label was written into: %v, want %v", room, roomCopied)
			}
		}
	}
}

// TestDoorsAreTheSameAgain asks behind other questions, and in another order.
func TestDoorsAreTheSameAgain(t *testing.T) {
	wrong := impl.Door{Handle: 102, Queue: queueFrom(1, 1, 1, 1)}
	for _, d := range rightDoors() {
		checkDoor(t, "ahead of a wrong one", d, true)
		checkDoor(t, "a wrong one", wrong, false)
		checkDoor(t, "behind a wrong one", d, true)
		checkMsg(t, "behind a door", msgFrom(1, 70), true)
	}
	for _, o := range openings() {
		for handle := int64(1001); handle >= -2; handle-- {
			o.check(t, handle)
			impl.ShutDoor(308 - handle)
			impl.OpenDoor(308 - handle)
			o.check(t, handle)
		}
	}
}
