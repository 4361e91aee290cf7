package clock

import (
	"cmp"
	"math"
	"math/rand"
	"slices"
	"testing"

	"samphire/api"
)

// wild are numbers at all edges, of any kind.
var wild = []int{math.MinInt, math.MinInt + 1, -1 << 40, -api.MaxTime, -7, -6, -1, 0, 1, 2, 5, 6, 7, 8, 255, 256, 1 << 32, api.MaxTime - 1, api.MaxTime, api.MaxTime + 1, 1 << 41, math.MaxInt - 1, math.MaxInt}

func stamp(time, who int) api.Stamp { return api.Stamp{Time: time, Who: who} }

// mayBe tells whether a stamp may be one, told by another way.
func mayBe(s api.Stamp) bool {
	return slices.Contains([]int{1, 2, 3, 4, 5, 6}, s.Who) && s.Time > 0 && s.Time>>40 == 0
}

// wildStamps are all stamps of wild numbers.
func wildStamps() []api.Stamp {
	var l []api.Stamp
	for _, time := range wild {
		for _, who := range wild {
			l = append(l, stamp(time, who))
		}
	}
	return l
}

func newOf(t *testing.T, who int) *Clock {
	t.Helper()
	c, e := New(who)
	if c == nil || e != api.OK {
		t.Fatalf("New of %d: %v %d", who, c, e)
	}
	return c
}

// at is a clock of a client, at a time.
func at(t *testing.T, who, time int) *Clock {
	t.Helper()
	c := newOf(t, who)
	if time > 0 {
		sees(t, c, stamp(time, who), time)
	}
	isNow(t, c, time)
	return c
}

func isNow(t *testing.T, c *Clock, want int) {
	t.Helper()
	for range 2 {
		if n := c.Now(); n != want {
			t.Errorf("Now: %d, not %d", n, want)
		}
	}
}

// sees holds that a stamp is seen, and that the clock is at a time then.
func sees(t *testing.T, c *Clock, s api.Stamp, want int) {
	t.Helper()
	if e := c.See(s); e != api.OK {
		t.Errorf("See %v: %d", s, e)
	}
	isNow(t, c, want)
}

// seesNot holds that a stamp is refused, and changes nothing.
func seesNot(t *testing.T, c *Clock, s api.Stamp) {
	t.Helper()
	n := c.Now()
	if e := c.See(s); e != api.ErrArg {
		t.Errorf("See %v: %d, not ErrArg", s, e)
	}
	isNow(t, c, n)
}

// gives holds that a stamp is the next one.
func gives(t *testing.T, c *Clock, want api.Stamp) {
	t.Helper()
	if s, e := c.Next(); s != want || e != api.OK {
		t.Errorf("Next: %v %d, not %v", s, e, want)
	}
	isNow(t, c, want.Time)
}

// isSpent holds that there is no next one, and that the clock stays where it is.
func isSpent(t *testing.T, c *Clock) {
	t.Helper()
	for range 3 {
		if s, e := c.Next(); s != (api.Stamp{}) || e != api.ErrSpent {
			t.Errorf("Next: %v %d, not ErrSpent", s, e)
		}
		isNow(t, c, api.MaxTime)
	}
}

func isStable(t *testing.T, l []api.Stamp, who []int, want int) {
	t.Helper()
	if n := Stable(l, who); n != want {
		t.Errorf("Stable of %v and %v: %d, not %d", l, who, n, want)
	}
}

// Ck1.

func TestExample(t *testing.T) {
	c := newOf(t, 1)
	sees(t, c, stamp(7, 2), 7)
	gives(t, c, stamp(8, 1))
}

func TestCheckAtTheEdges(t *testing.T) {
	for _, c := range []struct {
		time, who int
		want      api.Errno
	}{
		{1, 1, api.OK}, {1, 6, api.OK}, {api.MaxTime, 1, api.OK}, {api.MaxTime, 6, api.OK}, {7, 3, api.OK},
		{0, 1, api.ErrArg}, {0, 6, api.ErrArg}, {-1, 1, api.ErrArg}, {api.MaxTime + 1, 1, api.ErrArg}, {api.MaxTime + 1, 6, api.ErrArg},
		{1, 0, api.ErrArg}, {api.MaxTime, 0, api.ErrArg}, {1, 7, api.ErrArg}, {api.MaxTime, 7, api.ErrArg}, {1, -1, api.ErrArg}, {1, -6, api.ErrArg},
		{0, 0, api.ErrArg}, {api.MaxTime + 1, 7, api.ErrArg}, {-1, -1, api.ErrArg},
		// The lowest bits alone would do.
		{1<<40 + 1, 1, api.ErrArg}, {1 << 41, 1, api.ErrArg}, {1, 1<<8 + 1, api.ErrArg}, {1, 1<<32 + 1, api.ErrArg},
	} {
		if e := Check(stamp(c.time, c.who)); e != c.want {
			t.Errorf("Check of %d of %d: %d, not %d", c.time, c.who, e, c.want)
		}
	}
}

func TestCheckOfWildNumbers(t *testing.T) {
	for _, s := range wildStamps() {
		want := api.ErrArg
		if mayBe(s) {
			want = api.OK
		}
		if e := Check(s); e != want {
			t.Errorf("Check of %v: %d, not %d", s, e, want)
		}
	}
}

func TestLess(t *testing.T) {
	for _, c := range []struct {
		a, b api.Stamp
		want bool
	}{
		{stamp(1, 1), stamp(2, 1), true}, {stamp(2, 1), stamp(1, 1), false},
		{stamp(1, 6), stamp(2, 1), true}, {stamp(2, 1), stamp(1, 6), false},
		{stamp(3, 1), stamp(3, 2), true}, {stamp(3, 2), stamp(3, 1), false},
		{stamp(3, 2), stamp(3, 2), false}, {stamp(0, 0), stamp(0, 0), false},
		{stamp(0, 0), stamp(0, 1), true}, {stamp(0, 1), stamp(0, 0), false}, {stamp(0, 1), stamp(1, 1), true},
		{stamp(-1, 5), stamp(0, -5), true}, {stamp(0, -5), stamp(-1, 5), false}, {stamp(-2, 0), stamp(-1, 0), true}, {stamp(-1, 0), stamp(-2, 0), false},
		{stamp(4, -1), stamp(4, 0), true}, {stamp(4, 0), stamp(4, -1), false}, {stamp(4, -2), stamp(4, -1), true},
		{stamp(api.MaxTime, 6), stamp(api.MaxTime+1, 0), true}, {stamp(4, 0), stamp(3, 9), false}, {stamp(3, 9), stamp(4, 0), true},
		// What a difference would wrap round.
		{stamp(math.MinInt, 0), stamp(math.MaxInt, 0), true}, {stamp(math.MaxInt, 0), stamp(math.MinInt, 0), false},
		{stamp(0, math.MinInt), stamp(0, math.MaxInt), true}, {stamp(0, math.MaxInt), stamp(0, math.MinInt), false},
		{stamp(math.MinInt, math.MaxInt), stamp(math.MinInt+1, math.MinInt), true}, {stamp(math.MaxInt, math.MinInt), stamp(math.MaxInt-1, math.MaxInt), false},
		{stamp(math.MinInt, math.MinInt), stamp(math.MinInt, math.MinInt), false}, {stamp(math.MaxInt, math.MaxInt), stamp(math.MaxInt, math.MaxInt), false},
	} {
		if got := Less(c.a, c.b); got != c.want {
			t.Errorf("Less of %v and %v: %t", c.a, c.b, got)
		}
	}
}

func TestLessIsOneOrder(t *testing.T) {
	// These stand in order already, by how wild is written: so the places tell which stands ahead.
	if !slices.IsSorted(wild) {
		t.Fatal("wild is not sorted")
	}
	l := wildStamps()
	for i, a := range l {
		for j, b := range l {
			if Less(a, b) != (i < j) {
				t.Fatalf("Less of %v and %v: %t", a, b, Less(a, b))
			}
		}
	}
}

func TestNew(t *testing.T) {
	for who := 1; who <= 6; who++ {
		c := newOf(t, who)
		isNow(t, c, 0)
		gives(t, c, stamp(1, who))
	}
	// Of some the lowest bits alone would do.
	for _, who := range []int{0, 7, -1, 8, 9, -2, -6, -7, 1<<8 + 1, 1<<32 + 1, api.MaxTime, math.MinInt, math.MaxInt} {
		if c, e := New(who); c != nil || e != api.ErrArg {
			t.Errorf("New of %d: %v %d", who, c, e)
		}
	}
}

func TestNewOnesAreApart(t *testing.T) {
	a, b, c := newOf(t, 2), newOf(t, 2), newOf(t, 3)
	if a == b {
		t.Fatal("no new one")
	}
	sees(t, a, stamp(9, 1), 9)
	isNow(t, b, 0)
	isNow(t, c, 0)
	gives(t, b, stamp(1, 2))
	gives(t, a, stamp(10, 2))
	gives(t, c, stamp(1, 3))
	isNow(t, newOf(t, 2), 0)
}

func TestSeeAtTheEdges(t *testing.T) {
	for who := 1; who <= 6; who++ {
		for _, time := range []int{1, 2, 7, api.MaxTime - 1, api.MaxTime} {
			for own := 1; own <= 6; own++ {
				sees(t, newOf(t, own), stamp(time, who), time)
			}
		}
	}
	for _, s := range []api.Stamp{
		stamp(0, 1), stamp(0, 6), stamp(-1, 1), stamp(api.MaxTime+1, 1), stamp(api.MaxTime+1, 6), stamp(0, 0),
		stamp(1, 0), stamp(1, 7), stamp(1, -1), stamp(9, 0), stamp(9, 7), stamp(9, -1), stamp(api.MaxTime, 0), stamp(api.MaxTime, 7), stamp(api.MaxTime, -6),
	} {
		for _, time := range []int{0, 1, 5, api.MaxTime - 1} {
			c := at(t, 1, time)
			seesNot(t, c, s)
			seesNot(t, c, s)
			gives(t, c, stamp(time+1, 1))
		}
		c := at(t, 1, api.MaxTime)
		seesNot(t, c, s)
		isSpent(t, c)
	}
}

func TestSeeOfWildNumbers(t *testing.T) {
	for _, s := range wildStamps() {
		c := at(t, 4, 5)
		if mayBe(s) {
			sees(t, c, s, max(5, s.Time))
		} else {
			seesNot(t, c, s)
		}
	}
}

func TestSeeLessTheSameAndMore(t *testing.T) {
	for _, who := range []int{1, 2, 6} {
		c := at(t, 2, 7)
		sees(t, c, stamp(6, who), 7)
		sees(t, c, stamp(1, who), 7)
		sees(t, c, stamp(7, who), 7)
		sees(t, c, stamp(7, who), 7)
		sees(t, c, stamp(8, who), 8)
		sees(t, c, stamp(20, who), 20)
		sees(t, c, stamp(19, who), 20)
		gives(t, c, stamp(21, 2))
		sees(t, c, stamp(21, who), 21)
		gives(t, c, stamp(22, 2))
		sees(t, c, stamp(api.MaxTime, who), api.MaxTime)
		sees(t, c, stamp(22, who), api.MaxTime)
		sees(t, c, stamp(api.MaxTime, who), api.MaxTime)
	}
}

func TestNext(t *testing.T) {
	for who := 1; who <= 6; who++ {
		c := newOf(t, who)
		for time := 1; time <= 50; time++ {
			gives(t, c, stamp(time, who))
		}
		for _, time := range []int{0, 1, 254, 255, 1<<16 - 1, 1<<31 - 1, 1 << 31, 1<<32 - 1, 1 << 32, 1<<39 - 1, api.MaxTime - 2, api.MaxTime - 1} {
			gives(t, at(t, who, time), stamp(time+1, who))
		}
	}
}

func TestNextAtTheEnd(t *testing.T) {
	for who := 1; who <= 6; who++ {
		c := at(t, who, api.MaxTime-2)
		gives(t, c, stamp(api.MaxTime-1, who))
		gives(t, c, stamp(api.MaxTime, who))
		isSpent(t, c)
		// What it sees lets it be neither earlier nor later.
		sees(t, c, stamp(1, 1), api.MaxTime)
		sees(t, c, stamp(api.MaxTime, 6), api.MaxTime)
		seesNot(t, c, stamp(api.MaxTime+1, 1))
		seesNot(t, c, stamp(0, 1))
		isSpent(t, c)
		isSpent(t, at(t, who, api.MaxTime))
	}
}

func TestClockThatNewDidNotGive(t *testing.T) {
	var none *Clock
	var own Clock
	given, over := at(t, 3, 7), at(t, 4, 9)
	copied := *given
	spent := *at(t, 3, api.MaxTime)
	laid, emptied := at(t, 5, 2), at(t, 5, 2)
	*laid, *emptied = *over, Clock{}
	refused, _ := New(7)
	for i, c := range []*Clock{none, &own, {}, new(Clock), &copied, &spent, laid, emptied, refused} {
		for range 2 {
			if n := c.Now(); n != 0 {
				t.Errorf("the %d. one: Now %d", i+1, n)
			}
			for _, s := range []api.Stamp{stamp(1, 1), stamp(9, 3), stamp(api.MaxTime, 6), stamp(0, 0), stamp(-1, 7)} {
				if e := c.See(s); e != api.ErrArg {
					t.Errorf("the %d. one: See %v: %d", i+1, s, e)
				}
			}
			if s, e := c.Next(); s != (api.Stamp{}) || e != api.ErrArg {
				t.Errorf("the %d. one: Next %v %d", i+1, s, e)
			}
		}
	}
	// Those that were copied go on.
	isNow(t, given, 7)
	gives(t, given, stamp(8, 3))
	gives(t, over, stamp(10, 4))
}

// Ck2.

func TestStableOfNone(t *testing.T) {
	some := []api.Stamp{stamp(4, 1), stamp(9, 2)}
	for _, l := range [][]api.Stamp{nil, {}, some} {
		isStable(t, l, nil, 0)
		isStable(t, l, []int{}, 0)
		isStable(t, l, []int{3}, 0)
		isStable(t, l, []int{1, 3}, 0)
		isStable(t, l, []int{3, 1}, 0)
	}
	for who := 1; who <= 6; who++ {
		isStable(t, nil, []int{who}, 0)
		isStable(t, []api.Stamp{}, []int{who, who}, 0)
	}
}

func TestStable(t *testing.T) {
	l := []api.Stamp{stamp(4, 1), stamp(9, 2), stamp(6, 1), stamp(7, 3), stamp(1, 6), stamp(3, 2)}
	for _, c := range []struct {
		who  []int
		want int
	}{
		{[]int{1}, 6}, {[]int{2}, 9}, {[]int{3}, 7}, {[]int{6}, 1}, {[]int{4}, 0}, {[]int{5}, 0},
		{[]int{1, 2}, 6}, {[]int{2, 1}, 6}, {[]int{2, 3}, 7}, {[]int{3, 2}, 7}, {[]int{3, 2, 1}, 6}, {[]int{1, 2, 3, 6}, 1}, {[]int{6, 3, 2, 1}, 1},
		{[]int{2, 4}, 0}, {[]int{4, 2}, 0}, {[]int{1, 2, 3, 4, 5, 6}, 0},
		// One that stands twice counts as once.
		{[]int{2, 2}, 9}, {[]int{1, 1, 1}, 6}, {[]int{2, 1, 2}, 6}, {[]int{3, 3, 2, 2}, 7}, {[]int{4, 4}, 0},
	} {
		isStable(t, l, c.who, c.want)
	}
	isStable(t, []api.Stamp{stamp(api.MaxTime, 1), stamp(api.MaxTime, 6)}, []int{1, 6}, api.MaxTime)
	isStable(t, []api.Stamp{stamp(api.MaxTime, 1), stamp(api.MaxTime-1, 6)}, []int{1, 6}, api.MaxTime-1)
	isStable(t, []api.Stamp{stamp(5, 5), stamp(5, 5)}, []int{5}, 5)
}

func TestStableOfStampsThatMayNotBe(t *testing.T) {
	good := []api.Stamp{stamp(4, 1), stamp(9, 2)}
	for _, s := range wildStamps() {
		if mayBe(s) {
			continue
		}
		isStable(t, []api.Stamp{s}, []int{s.Who}, 0)
		isStable(t, []api.Stamp{s}, []int{1}, 0)
		isStable(t, []api.Stamp{s, s}, []int{1, 2, 3, 4, 5, 6}, 0)
		for place := range len(good) + 1 {
			l := slices.Insert(slices.Clone(good), place, s)
			isStable(t, l, []int{1, 2}, 4)
			isStable(t, l, []int{2}, 9)
			isStable(t, l, []int{3}, 0)
			isStable(t, l, []int{2, 1, 3}, 0)
		}
	}
}

func TestStableOfNumbersThatAreNoClients(t *testing.T) {
	// A stamp with such a Who may not be: so there is none.
	for _, who := range wild {
		if mayBe(stamp(1, who)) {
			continue
		}
		l := []api.Stamp{stamp(4, 1), stamp(5, who), stamp(9, 2)}
		isStable(t, l, []int{who}, 0)
		isStable(t, l, []int{1, who}, 0)
		isStable(t, l, []int{who, 1, 2}, 0)
		isStable(t, l, []int{2, who, 2}, 0)
	}
}

// otherStable tells it by the stamps in order, one client at a time.
func otherStable(l []api.Stamp, who []int) int {
	var times []int
	for _, w := range who {
		last := []int{0}
		for _, s := range l {
			if s.Who == w && mayBe(s) {
				last = append(last, s.Time)
			}
		}
		times = append(times, slices.Max(last))
	}
	if len(times) == 0 {
		return 0
	}
	return slices.Min(times)
}

// drawnStamp is one that often may not be.
func drawnStamp(draw *rand.Rand) api.Stamp {
	s := stamp(1+draw.Intn(30), 1+draw.Intn(6))
	switch draw.Intn(12) {
	case 0:
		s.Time = wild[draw.Intn(len(wild))]
	case 1:
		s.Who = wild[draw.Intn(len(wild))]
	}
	return s
}

func drawnStamps(draw *rand.Rand, most int) []api.Stamp {
	l := make([]api.Stamp, draw.Intn(most+1))
	for i := range l {
		l[i] = drawnStamp(draw)
	}
	return l
}

// drawnClients are some, mostly those that there are, in any order.
func drawnClients(draw *rand.Rand) []int {
	l := make([]int, draw.Intn(7))
	for i := range l {
		l[i] = 1 + draw.Intn(6)
		if draw.Intn(40) == 0 {
			l[i] = wild[draw.Intn(len(wild))]
		}
	}
	return l
}

func TestStableOfDrawnStamps(t *testing.T) {
	draw := rand.New(rand.NewSource(101))
	told := 0
	for range 20000 {
		l, who := drawnStamps(draw, 30), drawnClients(draw)
		want := otherStable(l, who)
		isStable(t, l, who, want)
		if want > 0 {
			told++
		}
		// In any order.
		draw.Shuffle(len(l), func(i, j int) { l[i], l[j] = l[j], l[i] })
		draw.Shuffle(len(who), func(i, j int) { who[i], who[j] = who[j], who[i] })
		isStable(t, l, who, want)
		slices.SortFunc(l, func(a, b api.Stamp) int { return cmp.Compare(b.Time, a.Time) })
		isStable(t, l, who, want)
	}
	if told < 5000 {
		t.Errorf("the stamps that were drawn tell too little: %d", told)
	}
}

func TestMoreStampsAndMoreClients(t *testing.T) {
	draw := rand.New(rand.NewSource(102))
	rose, fell := 0, 0
	for range 2000 {
		l, who := drawnStamps(draw, 20), append(drawnClients(draw), 1+draw.Intn(6))
		n := Stable(l, who)
		more := Stable(append(slices.Clone(l), drawnStamps(draw, 20)...), who)
		if more < n {
			t.Fatalf("%v and %v: by more stamps %d, and %d ahead", l, who, more, n)
		}
		less := Stable(l, append(slices.Clone(who), drawnClients(draw)...))
		if less > n {
			t.Fatalf("%v and %v: by more clients %d, and %d ahead", l, who, less, n)
		}
		if more > n {
			rose++
		}
		if less < n {
			fell++
		}
	}
	if rose < 100 || fell < 100 {
		t.Errorf("what was drawn tells too little: %d %d", rose, fell)
	}
}

func TestStableOfManyStamps(t *testing.T) {
	var l []api.Stamp
	for n := range 300000 {
		l = append(l, stamp(n+1, 1+n%6))
	}
	who := slices.Repeat([]int{1, 2, 3, 4, 5, 6}, 50000)
	isStable(t, l, who, 299995)
	isStable(t, l, append(who, 0), 0)
}

// Ck3.

func TestStampsOfNextRise(t *testing.T) {
	draw := rand.New(rand.NewSource(103))
	for range 500 {
		who := 1 + draw.Intn(6)
		c := newOf(t, who)
		last, now := api.Stamp{}, 0
		var seen []api.Stamp
		for range 60 {
			if draw.Intn(2) == 0 {
				s := drawnStamp(draw)
				// A great one would let the clock be spent.
				if s.Time > 1<<35 {
					s.Time = 31 + draw.Intn(100)
				}
				if mayBe(s) {
					now = max(now, s.Time)
					sees(t, c, s, now)
					seen = append(seen, s)
				} else {
					seesNot(t, c, s)
				}
				continue
			}
			now++
			gives(t, c, stamp(now, who))
			next := stamp(now, who)
			if Check(next) != api.OK || !Less(last, next) || Less(next, last) {
				t.Fatalf("%v behind %v", next, last)
			}
			for _, s := range seen {
				if !Less(s, next) || s.Time >= next.Time {
					t.Fatalf("%v was seen, and then %v given", s, next)
				}
			}
			last = next
		}
	}
}

func TestTwoClientsThatSeeEachOther(t *testing.T) {
	a, b := newOf(t, 1), newOf(t, 2)
	// Each sees the other's at once: the times go up by turns.
	for n := range 20 {
		gives(t, a, stamp(2*n+1, 1))
		sees(t, b, stamp(2*n+1, 1), 2*n+1)
		gives(t, b, stamp(2*n+2, 2))
		sees(t, a, stamp(2*n+2, 2), 2*n+2)
	}
	// Neither sees the other's: the same times, but of different clients.
	gives(t, a, stamp(41, 1))
	gives(t, b, stamp(41, 2))
	gives(t, a, stamp(42, 1))
	sees(t, b, stamp(41, 1), 41)
	sees(t, a, stamp(41, 2), 42)
	gives(t, b, stamp(42, 2))
	gives(t, a, stamp(43, 1))
	if !Less(stamp(42, 1), stamp(42, 2)) || Less(stamp(42, 2), stamp(42, 1)) {
		t.Error("which of both stands ahead")
	}
}

func TestNoStampTwice(t *testing.T) {
	draw := rand.New(rand.NewSource(104))
	for range 100 {
		var clocks []*Clock
		for who := 1; who <= 6; who++ {
			clocks = append(clocks, newOf(t, who))
		}
		var all []api.Stamp
		count := map[api.Stamp]int{}
		times := make([]int, 6)
		for range 300 {
			n := draw.Intn(6)
			if draw.Intn(3) == 0 && len(all) > 0 {
				s := all[draw.Intn(len(all))]
				times[n] = max(times[n], s.Time)
				sees(t, clocks[n], s, times[n])
				continue
			}
			s, e := clocks[n].Next()
			times[n]++
			if s != stamp(times[n], n+1) || e != api.OK {
				t.Fatalf("%v %d, not %d of %d", s, e, times[n], n+1)
			}
			count[s]++
			if count[s] > 1 {
				t.Fatalf("%v twice", s)
			}
			all = append(all, s)
		}
		// What was given last of each is what its clock came to, or less, as it may have seen more since.
		if n := Stable(all, []int{1, 2, 3, 4, 5, 6}); n > slices.Min(times) || n != otherStable(all, []int{1, 2, 3, 4, 5, 6}) {
			t.Errorf("Stable %d, of clocks at %v", n, times)
		}
	}
}

// R3 and R4.

func TestListsStandAsTheyWere(t *testing.T) {
	// Behind the ends stands what would change the answer, were it read.
	stamps := []api.Stamp{stamp(9, 2), stamp(4, 1), stamp(0, 0), stamp(6, 1), stamp(9, 3), stamp(30, 1), stamp(20, 3)}
	clients := []int{2, 1, 2, 3, 4, 0}
	wantStamps, wantClients := slices.Clone(stamps), slices.Clone(clients)
	for _, c := range []struct{ l, who, want int }{
		{2, 2, 4}, {4, 2, 6}, {5, 3, 6}, {5, 4, 6}, {1, 1, 9}, {1, 2, 0}, {0, 2, 0}, {6, 4, 9}, {7, 4, 9}, {7, 5, 0}, {2, 0, 0},
	} {
		isStable(t, stamps[:c.l], clients[:c.who], c.want)
		if !slices.Equal(stamps, wantStamps) || !slices.Equal(clients, wantClients) {
			t.Fatalf("changed: %v %v", stamps, clients)
		}
	}
	// Nor is a list kept.
	isStable(t, stamps, clients[:3], 9)
	stamps[5] = stamp(2, 1)
	isStable(t, stamps, clients[:3], 6)
}

func TestAnswersHangOnTheClocksOwnCallsAlone(t *testing.T) {
	draw := rand.New(rand.NewSource(105))
	// Many at once, in turns, two of each client, beside a time that is counted by hand.
	clocks, times := make([]*Clock, 12), make([]int, 12)
	for n := range clocks {
		clocks[n] = newOf(t, 1+n%6)
	}
	for range 5000 {
		n := draw.Intn(12)
		switch draw.Intn(3) {
		case 0:
			times[n]++
			gives(t, clocks[n], stamp(times[n], 1+n%6))
		case 1:
			s := stamp(1+draw.Intn(3000), 1+draw.Intn(6))
			times[n] = max(times[n], s.Time)
			sees(t, clocks[n], s, times[n])
		case 2:
			seesNot(t, clocks[n], stamp(5000, 7))
			Stable([]api.Stamp{stamp(9999, 1+n%6)}, []int{1 + n%6})
			Check(stamp(9999, 1+n%6))
		}
		for m, c := range clocks {
			isNow(t, c, times[m])
		}
	}
}
