package client

import (
	"fmt"
	"math"
	"reflect"
	"slices"
	"strings"
	"testing"

	"samphire/api"
	"samphire/block"
	"samphire/relay"
	"samphire/sha"
	"samphire/store"
	"samphire/vault"
)

// The chapter's example.

func TestExample(t *testing.T) {
	r, _ := relay.New(0, 1<<20)
	a := client(t, vault.Real(), 1)
	o := edit(t, a, "a")
	for _, call := range []func() (string, api.Errno){a.Send, func() (string, api.Errno) { return a.Fetch(9) }} {
		if l := a.Nodes(); len(l) != 0 {
			t.Errorf("shown ahead of what the relay gave: %v", l)
		}
		s, e := call()
		if e != api.OK {
			t.Fatal(e)
		}
		hears(t, a, r.Hear(s), api.OK)
	}
	if l := a.Nodes(); !slices.Equal(l, []api.Node{{Id: o.At, Name: "a"}}) {
		t.Errorf("shown: %v", l)
	}
	if a.Waits() != 0 {
		t.Error("it waits yet")
	}
}

// Cl1.

func TestOpenOfWhatIsNone(t *testing.T) {
	one, fine := deviceOf(t, 1), deviceOf(t, blocks)
	gone := deviceOf(t, blocks)
	*gone = block.Device{}
	ideal := vault.Ideal("seed")
	none := func(n int) []string { return make([]string, n) }
	with := func(l []string, who int, s string) []string {
		l = slices.Clone(l)
		l[who-1] = s
		return l
	}
	type args struct {
		d   *block.Device
		s   *vault.Sealer
		who int
		own []string
	}
	var l []args
	for _, d := range []*block.Device{nil, {}, one, gone} {
		l = append(l, args{d, ideal, 1, allOwn()}, args{d, ideal, 2, justOwn(2)})
	}
	copied := *ideal
	for _, s := range []*vault.Sealer{nil, {}, &copied} {
		l = append(l, args{fine, s, 1, allOwn()}, args{fine, s, 2, justOwn(2)})
	}
	for _, who := range []int{0, 7, -1, 8, 1 << 32, math.MaxInt, math.MinInt} {
		l = append(l, args{fine, ideal, who, allOwn()})
	}
	for who := 1; who <= 6; who++ {
		for _, own := range [][]string{nil, {}, none(6), allOwn()[:5], append(allOwn(), fresh0("own", 7)), append(make([]string, who), allOwn()[who:]...)} {
			l = append(l, args{fine, ideal, who, own})
		}
		for _, n := range []int{0, 1, 31, 33, 64} {
			l = append(l, args{fine, ideal, who, with(allOwn(), who, text(n))})
			l = append(l, args{fine, ideal, 1, with(allOwn(), who, text(n))})
		}
	}
	for _, off := range []bool{false, true} {
		if off {
			fine.Fuse(0)
			fine.Write(0, strings.Repeat("x", 64))
		}
		for _, x := range l {
			if c, e := Open(x.d, x.s, x.who, x.own); c != nil || e != api.ErrArg {
				t.Errorf("Open of %d with %d own keys, off %t: %v %d", x.who, len(x.own), off, c != nil, e)
			}
		}
	}
	if fine.Writes() != 0 || ideal.Many() != 0 || ideal.Drawn(40) != vault.Ideal("seed").Drawn(40) {
		t.Error("something was written, or drawn")
	}
}

// Of one who is not the admin the others' keys may be anything; and there need not be more than two blocks.
func TestOpenOfWhatIsEnough(t *testing.T) {
	for who := 1; who <= 6; who++ {
		for _, n := range []int{2, 3, blocks, 4096} {
			own := allOwn()
			if who != 1 {
				own = []string{"", "x", text(31), text(33), text(1 << 10), ""}
				own[who-1] = fresh0("own", who)
			}
			d := deviceOf(t, n)
			c, e := Open(d, vault.Ideal("seed"), who, own)
			if c == nil || e != api.OK || d.Writes() != 0 {
				t.Errorf("Open of %d on %d blocks: %d, %d writes", who, n, e, d.Writes())
			}
		}
	}
}

// What a client is on a new device.
func TestNewClients(t *testing.T) {
	for who := 1; who <= 6; who++ {
		d := deviceOf(t, blocks)
		for range 2 {
			c := open(t, d, vault.Real(), who)
			s := shapeOf(c)
			if s.Many != 0 || s.Chain != sha.Sum("samphire") || len(s.Nodes) != 0 || s.Tampered || s.Waits != 0 || s.Sealed || s.JoinE != api.OK {
				t.Errorf("%d: %s", who, short(s))
			}
			if who == 1 {
				var l []api.Member
				for k := range 6 {
					l = append(l, api.Member{Who: k + 1, In: k == 0})
				}
				if !s.Joined || !reflect.DeepEqual(s.Group, api.Group{Epoch: 1, Members: l}) || !slices.Equal(s.Epochs, []int{1}) || s.FetchE != api.OK {
					t.Errorf("the admin: %s", short(s))
				}
				continue
			}
			if s.Joined || !reflect.DeepEqual(s.Group, api.Group{}) || len(s.Epochs) != 0 || s.FetchE != api.ErrWait {
				t.Errorf("%d: %s", who, short(s))
			}
		}
		if d.Writes() != 0 {
			t.Error("Open has written")
		}
	}
}

func TestOpenWhileOff(t *testing.T) {
	for _, laid := range []string{"", "something else"} {
		d := deviceOf(t, blocks)
		if laid != "" {
			s, _ := store.Open(d)
			s.Lay(laid)
		}
		d.Fuse(0)
		d.Write(0, strings.Repeat("x", 64))
		for who := 1; who <= 6; who++ {
			if c, e := Open(d, vault.Real(), who, justOwn(who)); c != nil || e != api.ErrOff {
				t.Errorf("%q: Open of %d: %d, not ErrOff", laid, who, e)
			}
		}
	}
	// A fuse alone is no power that is off.
	d := deviceOf(t, blocks)
	d.Fuse(0)
	open(t, d, vault.Real(), 1)
}

// laidOn is a device of a store in which texts lie, the base first.
func laidOn(t *testing.T, l ...string) *block.Device {
	t.Helper()
	d := deviceOf(t, blocks)
	s, _ := store.Open(d)
	if e := s.Lay(l[0]); e != api.OK {
		t.Fatal(e)
	}
	for _, x := range l[1:] {
		if e := s.Add(x); e != api.OK {
			t.Fatal(e)
		}
	}
	return d
}

// lies holds that there is no client of someone on a device, and that this changes nothing there.
func lies(t *testing.T, d *block.Device, who int, what string) {
	t.Helper()
	was, writes := left(t, d), d.Writes()
	if c, e := Open(d, vault.Real(), who, justOwn(who)); c != nil || e != api.ErrArg {
		t.Errorf("%s: Open of %d: %d, not ErrArg", what, who, e)
	}
	if left(t, d) != was || d.Writes() != writes {
		t.Errorf("%s: it has written", what)
	}
}

func TestSomethingElseLiesThere(t *testing.T) {
	for _, s := range []string{"", "x", "client", "\x00\x06client", text(100), strings.Repeat("\x00", 100), text(1 << 15)} {
		for who := 1; who <= 6; who++ {
			lies(t, laidOn(t, s), who, fmt.Sprintf("%.20q", s))
		}
	}
}

// used is a device of each who, and what lies there, of clients that did this and that.
func used(t *testing.T) map[int][]*block.Device {
	t.Helper()
	all := map[int][]*block.Device{}
	b := bookOf(t, vault.Real())
	for who := 2; who <= 6; who++ {
		b.control(api.RecAdd, who)
	}
	for who := 1; who <= 6; who++ {
		c := b.member(who)
		all[who] = append(all[who], twin(t, c.device))
		edit(t, c, "a")
		edit(t, c, "b")
		send(t, c)
		all[who] = append(all[who], c.device)
	}
	return all
}

func TestWhatAnotherOneLeft(t *testing.T) {
	for who, l := range used(t) {
		for _, d := range l {
			open(t, twin(t, d), vault.Real(), who)
			for other := 1; other <= 6; other++ {
				if other != who {
					lies(t, d, other, fmt.Sprintf("what %d left", who))
				}
			}
		}
	}
}

// What a client left, with something behind the base, cut, or longer, is nothing that a client left; with a byte turned it
// may be: but then it is opened as such, whatever it does then.
func TestWhatNoClientLeft(t *testing.T) {
	for who, l := range used(t) {
		for _, d := range l {
			s := left(t, d)
			lies(t, laidOn(t, s, ""), who, "with an empty text behind it")
			lies(t, laidOn(t, s, s), who, "twice")
			lies(t, laidOn(t, s+"\x00"), who, "longer")
			lies(t, laidOn(t, s[1:]), who, "without its beginning")
			for n := 0; n < len(s); n += 1 + n%7 {
				lies(t, laidOn(t, s[:n]), who, fmt.Sprintf("cut behind %d", n))
			}
			for n := range len(s) {
				x := []byte(s)
				x[n] ^= 1 << (n % 8)
				d := laidOn(t, string(x))
				c, e := Open(d, vault.Real(), who, justOwn(who))
				if e == api.ErrArg && c == nil {
					continue
				}
				if e != api.OK || left(t, d) != string(x) {
					t.Fatalf("byte %d turned: %d", n, e)
				}
				callAll(c)
			}
		}
	}
}

// What no client can have all together is nothing that one left.
func TestWhatNoClientHas(t *testing.T) {
	b := bookOf(t, vault.Real())
	for who := 2; who <= 6; who++ {
		b.control(api.RecAdd, who)
	}
	record := func(r api.Record) api.Record {
		r.Count, r.Head = 1, text(32)
		return r
	}
	op := func(who int) api.Record {
		return record(api.Record{Kind: api.RecOp, From: who, Op: create(who, 9, "a")})
	}
	for name, change := range map[string]func(s *state){
		"a member without a key":   func(s *state) { s.ahead, s.key = "", "" },
		"a key of the epoch ahead": func(s *state) { s.key = "" },
		"keys of one who is none":  func(s *state) { s.group = api.Group{} },
		"nobody's":                 func(s *state) { s.who = 0 },
		"a record of another one":  func(s *state) { s.waits = []waiting{{record: op(7 - s.who)}} },
		"no record":                func(s *state) { s.waits = []waiting{{}} },
		"further than sent":        func(s *state) { s.waits = []waiting{{far: 3, record: op(s.who), epoch: 1, blob: "x"}} },
		"sealed as nothing":        func(s *state) { s.waits = []waiting{{far: sealed, record: op(s.who), epoch: 1}} },
		"not sealed, but as that":  func(s *state) { s.waits = []waiting{{record: op(s.who), epoch: 1, blob: "x"}} },
		"the second one sealed": func(s *state) {
			s.waits = []waiting{{record: op(s.who)}, {far: sent, record: op(s.who), epoch: 1, blob: "x"}}
		},
		"too many that wait":          func(s *state) { s.waits = slices.Repeat([]waiting{{record: op(s.who)}}, 33) },
		"no chain":                    func(s *state) { s.chains = nil },
		"a chain that is too short":   func(s *state) { s.chains[0] = text(31) },
		"more chains than records":    func(s *state) { s.chains = append(s.chains, text(32)) },
		"what one has who has no key": func(s *state) { s.group.Members[s.who-1].In = false },
		"what one without keys has": func(s *state) {
			s.group, s.ahead, s.key = api.Group{}, "", ""
			s.waits = []waiting{{record: op(s.who)}}
		},
		"what only the admin lets wait": func(s *state) {
			if s.who == 1 {
				s.who = 7
			}
			s.waits = []waiting{{record: record(api.Record{Kind: api.RecRotate, From: s.who})}}
		},
		"an admin who has not joined": func(s *state) {
			s.group, s.ahead, s.key, s.who = api.Group{}, "", "", 1
		},
	} {
		for who := 1; who <= 6; who++ {
			c := b.member(who)
			s := c.has.copied()
			change(&s)
			text, e := s.put()
			if e != api.OK {
				t.Fatal(name, e)
			}
			lies(t, laidOn(t, text), who, name)
		}
	}
}

// callAll calls each method.
func callAll(c *Client) []any {
	var l []any
	tell := func(x ...any) { l = append(l, x...) }
	o, e := c.Edit(api.Op{Kind: api.OpCreate, Name: "x"})
	tell(o, e, c.Control(api.RecRotate, 0))
	for range 2 {
		s, e := c.Send()
		tell(s, e)
	}
	s, e := c.Fetch(9)
	tell(s, e)
	s, e = c.Join()
	tell(s, e)
	s, e = c.Keep()
	tell(s, e, c.Hear("junk"))
	r, ok := c.Next()
	n, chain := c.Chain()
	tell(r, ok, c.Waits(), c.Nodes(), c.Group(), n, chain, c.Epochs(), c.Joined(), c.Tampered())
	return l
}

// Blocks that are no store's are those of a new device: the power may have gone off before anything was sure there.
func TestBlocksThatAreNoStore(t *testing.T) {
	d := deviceOf(t, blocks)
	for k := 1; k < 40; k++ {
		d.Write(k, text(64))
	}
	if c := open(t, d, vault.Real(), 1); !c.Joined() {
		t.Error("not as a new one")
	}
}

// like holds that two clients go on in the same way.
func like(t *testing.T, what string, b *book, x, y *Client) {
	t.Helper()
	if !shapeOf(x).is(shapeOf(y)) {
		t.Fatalf("%s: \n%.1000s, not\n%.1000s", what, short(shapeOf(x)), short(shapeOf(y)))
	}
	n, _ := x.Chain()
	next := make([]api.Item, 0)
	if n < b.many() {
		next = b.items[n:min(b.many(), n+32)]
	}
	for k, f := range []func(c *Client) []any{
		func(c *Client) []any { return callAll(c) },
		func(c *Client) []any { return []any{c.Hear(given(t))} },
		func(c *Client) []any { return callAll(c) },
		func(c *Client) []any { return []any{c.Hear(given(t, next...))} },
		func(c *Client) []any { return callAll(c) },
		func(c *Client) []any { return []any{c.Hear(b.snap())} },
		func(c *Client) []any { return callAll(c) },
	} {
		if a, o := f(x), f(y); !reflect.DeepEqual(a, o) {
			t.Fatalf("%s: %d: they answer\n%.1000s, and\n%.1000s", what, k, short(a), short(o))
		}
	}
}

// act is a call, and what comes ahead of it: on a new client of someone's each time.
type act struct {
	name string
	who  int
	// What it was given ahead, and the call.
	ahead func(c *Client)
	call  func(c *Client) api.Errno
	want  api.Errno
	// Whether it changes something.
	quiet bool
}

// acts are all kinds of calls, of the admin and of member 2, who heard some of a book.
func acts(t *testing.T, b *book) []act {
	t.Helper()
	b.create(1, 1, "a")
	b.control(api.RecAdd, 2)
	begin := b.snap()
	aged := b.copied()
	aged.control(api.RecRotate, 0)
	aged.control(api.RecRotate, 0)
	old := given(t, aged.items[2:]...)
	b.create(1, 2, "b")
	b.create(2, 3, "c")
	middle := b.many()
	b.control(api.RecAdd, 3)
	b.control(api.RecRotate, 0)
	b.create(2, 4, "d")
	later := b.snap()
	none := given(t)
	first := given(t, b.items[:2]...)
	more := given(t, b.items[2:middle]...)
	far := given(t, b.items[middle:]...)
	forged := b.items[middle]
	forged.Blob = text(272)
	bad := given(t, b.items[2], b.items[3], forged)
	gone := b.until(middle)
	gone.create(2, 9, "e")
	gone.control(api.RecRemove, 2)
	gone.create(1, 9, "f")
	removed := given(t, gone.items[middle:]...)
	join := func(l ...string) func(c *Client) {
		return func(c *Client) {
			for _, s := range l {
				hears(t, c, s, api.OK)
			}
			c.Edit(api.Op{Kind: api.OpCreate, Name: "w"})
		}
	}
	sendOf := func(c *Client) api.Errno {
		_, e := c.Send()
		return e
	}
	hear := func(s string) func(c *Client) api.Errno {
		return func(c *Client) api.Errno { return c.Hear(s) }
	}
	editOf := func(c *Client) api.Errno {
		_, e := c.Edit(api.Op{Kind: api.OpSet, Node: api.Stamp{Time: 1, Who: 1}, Value: "v"})
		return e
	}
	controlOf := func(kind, who int) func(c *Client) api.Errno {
		return func(c *Client) api.Errno { return c.Control(kind, who) }
	}
	then := func(f func(c *Client), l ...func(c *Client) api.Errno) func(c *Client) {
		return func(c *Client) {
			f(c)
			for _, x := range l {
				if e := x(c); e != api.OK {
					t.Fatalf("ahead: %d", e)
				}
			}
		}
	}
	var l []act
	// In one order each time: what an ideal sealer draws hangs on it.
	for k, start := range []string{first, begin} {
		who := k + 1
		l = append(l,
			act{"Edit", who, join(start), editOf, api.OK, false},
			act{"Edit refused", who, join(start), func(c *Client) api.Errno { _, e := c.Edit(api.Op{}); return e }, api.ErrArg, true},
			act{"Send", who, join(start), sendOf, api.OK, false},
			act{"Send again", who, then(join(start), sendOf, hear(none)), sendOf, api.OK, false},
			act{"Send too soon", who, then(join(start), sendOf), sendOf, api.ErrWait, true},
			act{"Fetch", who, join(start), func(c *Client) api.Errno { _, e := c.Fetch(9); return e }, api.OK, true},
			act{"Join", who, join(start), func(c *Client) api.Errno { _, e := c.Join(); return e }, api.OK, true},
			act{"Hear nothing", who, join(start), hear(none), api.OK, true},
			act{"Hear nothing since it was sent", who, then(join(start), sendOf), hear(none), api.OK, false},
			act{"Hear some", who, join(start), hear(more), api.OK, false},
			act{"Hear its own", who, then(join(start), sendOf), hear(more), api.OK, false},
			act{"Hear of epochs", who, join(start, more), hear(far), api.OK, false},
			act{"Hear what is forged", who, join(start), hear(bad), api.ErrTampered, false},
			act{"Hear what is not next", who, join(start), hear(far), api.ErrWire, true},
			act{"Hear a snapshot", who, join(start), hear(later), api.OK, false},
			act{"Hear a snapshot since it was sent", who, then(join(start), sendOf), hear(later), api.OK, false},
			act{"Hear of an error", who, join(start), hear(asBytes(t, api.Frame{Kind: api.FrameError, Err: api.ErrQuota})), api.ErrQuota, true},
		)
	}
	return append(l,
		act{"Add", 1, join(first), controlOf(api.RecAdd, 3), api.OK, false},
		act{"Remove", 1, join(first), controlOf(api.RecRemove, 2), api.OK, false},
		act{"Rotate", 1, join(first), controlOf(api.RecRotate, 0), api.OK, false},
		act{"Keep", 1, join(first), func(c *Client) api.Errno { _, e := c.Keep(); return e }, api.OK, true},
		act{"Send of an addition", 1, then(join(first), sendOf, hear(more), controlOf(api.RecAdd, 4)), sendOf, api.OK, false},
		act{"Send what is old", 2, then(join(begin), sendOf, hear(none), hear(old)), sendOf, api.OK, false},
		act{"Be removed", 2, join(begin, more), hear(removed), api.OK, false},
		act{"Be added", 2, func(*Client) {}, hear(begin), api.OK, false},
	)
}

// made is a client of an act's, on a device of its own, ahead of the call.
func (a act) made(t *testing.T, s *vault.Sealer) *Client {
	t.Helper()
	c := client(t, s, a.who)
	a.ahead(c)
	return c
}

// Behind each kind of call, and ahead of it, a client is opened anew as it was left.
func TestOpenedAnew(t *testing.T) {
	b := bookOf(t, vault.Real())
	for _, a := range acts(t, b) {
		c := a.made(t, b.seal)
		like(t, a.name+", ahead", b, open(t, twin(t, c.device), b.seal, a.who), open(t, twin(t, c.device), b.seal, a.who))
		d := twin(t, c.device)
		if e := a.call(c); e != a.want {
			t.Errorf("%s: %d, not %d", a.name, e, a.want)
		}
		if a.quiet != (left(t, c.device) == left(t, d)) {
			t.Errorf("%s: it has changed something: %t", a.name, !a.quiet)
		}
		like(t, a.name, b, open(t, twin(t, c.device), b.seal, a.who), c)
	}
}

// Whenever the power goes off, a client that is opened anew is as ahead of the call, or as behind it; and goes on so.
func TestFuses(t *testing.T) {
	b := bookOf(t, vault.Real())
	for _, a := range acts(t, b) {
		was := whole(a.made(t, b.seal))
		done := a.made(t, b.seal)
		writes := done.device.Writes()
		if e := a.call(done); e != a.want {
			t.Fatalf("%s: %d", a.name, e)
		}
		is := whole(done)
		if many := done.device.Writes() - writes; a.quiet != (many == 0) {
			t.Errorf("%s: %d writes", a.name, many)
		}
		for n := range done.device.Writes() - writes {
			c := a.made(t, b.seal)
			c.device.Fuse(n)
			if e := a.call(c); e != api.ErrOff {
				t.Fatalf("%s, %d: %d, not ErrOff", a.name, n, e)
			}
			if !c.device.Off() {
				t.Fatalf("%s, %d: the power is on", a.name, n)
			}
			c.device.On()
			again := open(t, c.device, b.seal, a.who)
			if x := whole(again); x != was && x != is {
				t.Fatalf("%s, %d: it is neither as ahead nor as behind", a.name, n)
			}
			if whole(again) == was {
				if e := a.call(again); e != a.want || whole(again) != is {
					t.Fatalf("%s, %d, once more: %d", a.name, n, e)
				}
			}
		}
		// With just as much power as it takes, it is done.
		c := a.made(t, b.seal)
		c.device.Fuse(done.device.Writes() - writes)
		if e := a.call(c); e != a.want || c.device.Off() || whole(c) != is {
			t.Errorf("%s, with all its power: %d", a.name, e)
		}
	}
}

// With the power off, what would change something is ErrOff, and gives nothing; what changes nothing is answered.
func TestCallsWhileOff(t *testing.T) {
	b := bookOf(t, vault.Real())
	for _, a := range acts(t, b) {
		c := a.made(t, b.seal)
		was := whole(c)
		c.device.Fuse(0)
		c.device.Write(0, strings.Repeat("x", 64))
		want := a.want
		if !a.quiet {
			want = api.ErrOff
		}
		if e := a.call(c); e != want {
			t.Errorf("%s: %d, not %d", a.name, e, want)
		}
		if !a.quiet && whole(c) != was {
			t.Errorf("%s: changed by what was not sure", a.name)
		}
	}
	c := client(t, b.seal, 1)
	edit(t, c, "a")
	c.device.Fuse(0)
	if o, e := c.Edit(api.Op{Kind: api.OpCreate, Name: "b"}); o != (api.Op{}) || e != api.ErrOff {
		t.Errorf("Edit: %v %d", o, e)
	}
	if s, e := c.Send(); s != "" || e != api.ErrOff {
		t.Errorf("Send: %q %d", s, e)
	}
}

// Where there is no room for what a client would have, nothing changes: nothing is written, nor sealed.
func TestNoRoom(t *testing.T) {
	b := bookOf(t, vault.Ideal("seed"))
	full := map[string]int{}
	for _, a := range acts(t, b) {
		for n := 2; n < 90; n++ {
			c := client(t, b.seal, a.who)
			a.ahead(c)
			// As that left it, on a device of n blocks.
			d := deviceOf(t, n)
			if was := left(t, c.device); was != "" {
				if s, _ := store.Open(d); s.Lay(was) != api.OK {
					continue
				}
			}
			c = open(t, d, b.seal, a.who)
			was, many := whole(c), b.seal.Many()
			switch e := a.call(c); e {
			case api.ErrFull:
				full[a.name]++
				if whole(c) != was || b.seal.Many() != many {
					t.Fatalf("%s, %d blocks: it has changed something", a.name, n)
				}
				refused(t, c, api.ErrFull, func() (any, api.Errno) { return nil, a.call(c) })
				like(t, a.name, b, open(t, twin(t, d), vault.Real(), a.who), open(t, twin(t, d), vault.Real(), a.who))
			case a.want:
			default:
				t.Fatalf("%s, %d blocks: %d", a.name, n, e)
			}
		}
	}
	for _, name := range []string{"Edit", "Send", "Add", "Remove", "Rotate", "Send of an addition", "Hear some", "Hear of epochs", "Hear a snapshot"} {
		if full[name] == 0 {
			t.Errorf("%s: there was always room", name)
		}
	}
}

// On two blocks there is room for nothing.
func TestNoRoomAtAll(t *testing.T) {
	b := bookOf(t, vault.Ideal("seed"))
	b.control(api.RecAdd, 2)
	for who := 1; who <= 2; who++ {
		d := deviceOf(t, 2)
		c := open(t, d, b.seal, who)
		if who == 1 {
			refused(t, c, api.ErrFull, edits(c, api.Op{Kind: api.OpCreate, Name: "a"}))
			refused(t, c, api.ErrFull, controls(c, api.RecRotate, 0))
			refused(t, c, api.ErrFull, hearing(c, given(t, b.items...)))
			// Nor for being tampered.
			refused(t, c, api.ErrFull, hearing(c, given(t, api.Item{Seq: 1, Epoch: 9, Blob: "x"})))
		} else {
			refused(t, c, api.ErrFull, hearing(c, b.snap()))
		}
	}
}

// ErrTampered is answered ahead of all else, and ErrWait ahead of all else but that.

func TestTamperedAheadOfAllElse(t *testing.T) {
	b := bookOf(t, vault.Ideal("seed"))
	b.create(1, 1, "a")
	b.control(api.RecAdd, 2)
	for who := 1; who <= 2; who++ {
		c := b.member(who)
		edit(t, c, "w")
		hears(t, c, given(t, b.item(9, "x")), api.ErrTampered)
		for range 2 {
			tampers(t, b, c)
			c = open(t, c.device, b.seal, who)
		}
		// Removed later, as far as others know: it hears nothing of that.
		if !c.Joined() || c.Waits() != 1 || len(c.Epochs()) != 2 {
			t.Errorf("what it has: %s", short(shapeOf(c)))
		}
	}
}

// tampers holds that a client is tampered, and does nothing any more.
func tampers(t *testing.T, b *book, c *Client) {
	t.Helper()
	if !c.Tampered() {
		t.Fatal("it is not tampered")
	}
	n, _ := c.Chain()
	next := b.item(1, "x")
	next.Seq = n + 1
	for _, call := range []func() (any, api.Errno){
		edits(c, api.Op{}), edits(c, api.Op{Kind: api.OpCreate, Name: "a"}),
		controls(c, 0, 0), controls(c, api.RecAdd, 3), controls(c, api.RecRotate, 0),
		sends(c), fetches(c, 9), fetches(c, -1), joins(c), keeps(c),
		hearing(c, "junk"), hearing(c, given(t)), hearing(c, given(t, next)), hearing(c, b.snap()),
		hearing(c, asBytes(t, api.Frame{Kind: api.FrameError, Err: api.ErrQuota})),
		hearing(c, asBytes(t, api.Frame{Kind: api.FrameTaken, Seq: 1})),
		hearing(c, asBytes(t, api.Frame{Kind: api.FrameKept, Seq: 1})),
		hearing(c, asBytes(t, api.Frame{Kind: api.FrameAsk})),
	} {
		refused(t, c, api.ErrTampered, call)
	}
}

func TestWaitAheadOfAllElse(t *testing.T) {
	b := bookOf(t, vault.Ideal("seed"))
	b.create(1, 1, "a")
	for who := 2; who <= 6; who++ {
		c := client(t, b.seal, who)
		waits(t, b, c)
		waits(t, b, open(t, c.device, b.seal, who))
	}
}

// waits holds that a client has not joined: what it does yet is to ask for the snapshot, and to hear.
func waits(t *testing.T, b *book, c *Client) {
	t.Helper()
	n, _ := c.Chain()
	next := b.item(1, "x")
	next.Seq = n + 1
	for _, call := range []func() (any, api.Errno){
		edits(c, api.Op{}), edits(c, api.Op{Kind: api.OpCreate, Name: "a"}),
		controls(c, 0, 0), controls(c, api.RecAdd, 3), controls(c, api.RecRotate, 0),
		sends(c), fetches(c, 9), fetches(c, -1), keeps(c),
		hearing(c, given(t)), hearing(c, given(t, next)), hearing(c, given(t, api.Item{Seq: 77})),
	} {
		refused(t, c, api.ErrWait, call)
	}
	refused(t, c, api.ErrWire, hearing(c, "junk"))
	refused(t, c, api.ErrQuota, hearing(c, asBytes(t, api.Frame{Kind: api.FrameError, Err: api.ErrQuota})))
	refused(t, c, api.ErrWire, hearing(c, asBytes(t, api.Frame{Kind: api.FrameAsk})))
	refused(t, c, api.OK, hearing(c, asBytes(t, api.Frame{Kind: api.FrameTaken, Seq: 1})))
	refused(t, c, api.OK, hearing(c, asBytes(t, api.Frame{Kind: api.FrameKept, Seq: 1})))
	if s, e := c.Join(); s != asBytes(t, api.Frame{Kind: api.FrameAsk}) || e != api.OK {
		t.Errorf("Join: %d", e)
	}
	if len(c.Epochs()) != 0 || c.Waits() != 0 {
		t.Errorf("what it has: %s", short(shapeOf(c)))
	}
}
