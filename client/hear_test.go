package client

import (
	"fmt"
	"math/rand"
	"reflect"
	"slices"
	"strings"
	"testing"

	"samphire/api"
	"samphire/code"
	"samphire/group"
	"samphire/keys"
	"samphire/pad"
	"samphire/snap"
	"samphire/tree"
	"samphire/vault"
	"samphire/wire"
)

// Cl5.

func TestHearOfWhatIsNoFrame(t *testing.T) {
	b := bookOf(t, vault.Ideal("seed"))
	b.control(api.RecAdd, 2)
	fine := given(t, b.item(2, "x"))
	for _, c := range []*Client{b.admin(), b.member(2), client(t, b.seal, 3)} {
		for _, s := range []string{"", "\x00", "junk", "\x0a" + fine[1:], fine + "\x00", fine[:len(fine)-1], "\x00" + fine, text(1 << 17), strings.Repeat("\x00", 34)} {
			refused(t, c, api.ErrWire, hearing(c, s))
		}
		for n := range len(fine) {
			refused(t, c, api.ErrWire, hearing(c, fine[:n]))
		}
		for _, f := range []api.Frame{
			{Kind: api.FrameAppend, Epoch: 1, Blob: "x"}, {Kind: api.FrameFetch, Seq: 2, Max: 9},
			{Kind: api.FrameKeep, Seq: 1, Epoch: 1, Blob: "x"}, {Kind: api.FrameAsk},
		} {
			refused(t, c, api.ErrWire, hearing(c, asBytes(t, f)))
		}
	}
	// Of another group: whatever its kind is.
	for _, c := range []*Client{b.admin(), b.member(2)} {
		for _, number := range []int{1, 2, 6, maxTime} {
			for _, f := range []api.Frame{
				{Kind: api.FrameTaken, Seq: 1}, {Kind: api.FrameGiven}, {Kind: api.FrameGiven, Items: []api.Item{b.item(2, "x")}},
				{Kind: api.FrameKept, Seq: 1}, {Kind: api.FrameSnap, Seq: 1, Epoch: 1, Blob: "x"}, {Kind: api.FrameSnap, Seq: 9, Epoch: 1, Blob: "x"},
				{Kind: api.FrameError}, {Kind: api.FrameError, Err: api.ErrQuota}, {Kind: api.FrameAsk},
			} {
				f.Group = number
				refused(t, c, api.ErrWire, hearing(c, asBytes(t, f)))
			}
		}
	}
}

// What the relay tells is answered: also where the number is one of a client's own errors, that tells nothing of it.
func TestHearOfErrors(t *testing.T) {
	b := bookOf(t, vault.Ideal("seed"))
	b.control(api.RecAdd, 2)
	for _, c := range []*Client{b.admin(), b.member(2), client(t, b.seal, 3)} {
		for _, e := range []api.Errno{0, 1, 2, 3, 4, api.ErrSeal, api.ErrSpent, api.ErrOff, api.ErrWire, api.ErrGone, api.ErrQuota, api.ErrTampered, api.ErrWait, 500, 999} {
			refused(t, c, e, hearing(c, asBytes(t, api.Frame{Kind: api.FrameError, Err: e})))
		}
		for _, n := range []int{0, 1, 2, maxTime} {
			refused(t, c, api.OK, hearing(c, asBytes(t, api.Frame{Kind: api.FrameTaken, Seq: n})))
			refused(t, c, api.OK, hearing(c, asBytes(t, api.Frame{Kind: api.FrameKept, Seq: n})))
		}
	}
}

// Numbers that are not the next ones: nothing changes, whatever else is wrong.
func TestNumbersThatAreNotNext(t *testing.T) {
	b := bookOf(t, vault.Ideal("seed"))
	for k := range 8 {
		b.create(1, k+1, "a")
	}
	l := b.items
	c := client(t, b.seal, 1)
	hears(t, c, given(t, l[:3]...), api.OK)
	turned := []api.Item{l[4], l[3]}
	bad := l[4]
	bad.Blob = "x"
	zero, great := l[3], l[3]
	zero.Seq, great.Seq = 0, maxTime
	for _, x := range [][]api.Item{
		l[:1], l[:3], l[:4], l[2:3], l[2:4], l[4:5], l[4:], turned, {l[3], l[3]}, {l[3], l[5]}, {l[3], l[4], l[4]}, {l[3], l[4], l[6]},
		{zero}, {great}, {l[3], zero}, {bad}, {l[3], bad, l[3]},
	} {
		refused(t, c, api.ErrWire, hearing(c, given(t, x...)))
	}
	b.at(c, 3)
	hears(t, c, given(t, l[3:]...), api.OK)
	b.at(c, 8)
}

// Each record is accepted, however they come in frames: each one in turn.
func TestAccepted(t *testing.T) {
	b := bookOf(t, vault.Real())
	var l []int
	for k := range 6 {
		l = append(l, k+1)
	}
	for _, who := range l[1:] {
		b.control(api.RecAdd, who)
	}
	time := 0
	for round := range 6 {
		for _, who := range l {
			time++
			b.create(who, time, fmt.Sprint("n", round, who))
		}
		time++
		b.do(api.Record{Kind: api.RecOp, From: 2 + round%5, Op: api.Op{Kind: api.OpMove, At: api.Stamp{Time: time, Who: 2 + round%5}, Node: api.Stamp{Time: time - 1, Who: 6}, Parent: api.Stamp{Time: time - 2, Who: 5}}})
		b.control(api.RecRotate, 0)
	}
	for _, step := range []int{1, 2, 3, 7, 31, 32} {
		c := client(t, b.seal, 1)
		for n := 0; n < b.many(); {
			to := min(n+step, b.many())
			hears(t, c, given(t, b.items[n:to]...), api.OK)
			n = to
			b.at(c, n)
			want := []int{b.pages[n].group.Epoch - 1, b.pages[n].group.Epoch}
			if want[0] == 0 {
				want = want[1:]
			}
			if !slices.Equal(c.Epochs(), want) {
				t.Errorf("%d: the keys of %v, not %v", n, c.Epochs(), want)
			}
			if step > 6 {
				c = open(t, c.device, b.seal, 1)
			}
		}
	}
}

// The bytes of the chain, that nothing here works out twice: of the number, the epoch, and the blob.
func TestTheChain(t *testing.T) {
	b := bookOf(t, vault.Real())
	i := b.create(1, 1, "a")
	c := b.admin()
	n, s := c.Chain()
	if want := sum(sum("samphire") + "\x00\x00\x00\x00\x00\x01\x00\x00\x00\x00\x00\x01" + i.Blob); n != 1 || s != want {
		t.Errorf("%d %x, not %x", n, s, want)
	}
}

// Records whose epoch is below the group's less 1 are accepted, and no more: whatever they are.
func TestOldRecords(t *testing.T) {
	for _, who := range []int{1, 2} {
		b := bookOf(t, vault.Ideal("seed"))
		b.control(api.RecAdd, 2)
		b.control(api.RecRotate, 0)
		b.control(api.RecRotate, 0)
		b.create(1, 1, "a")
		c := b.member(who)
		edit(t, c, "waits")
		f := send(t, c)
		r, _ := c.Next()
		was := shapeOf(c)
		old := b.made(api.Record{Kind: api.RecOp, From: who, Op: create(who, 50, "b")})
		for k, x := range []api.Item{
			b.item(2, b.blob(2, old)), b.item(1, b.blob(1, old)), b.item(2, "junk"), b.item(0, ""), b.item(1, text(20000)),
			b.item(2, b.items[3].Blob), b.item(2, b.blob(2, b.made(api.Record{Kind: api.RecRotate, From: 1}))),
		} {
			x.Seq = b.many() + 1
			b.takeItem(x, nil)
			hears(t, c, given(t, x), api.OK)
			b.at(c, b.many())
			is := shapeOf(c)
			is.Many, is.Chain, is.Fetch = was.Many, was.Chain, was.Fetch
			if !is.is(was) {
				t.Errorf("%d: changed to %s", k, short(is))
			}
		}
		// Its clock has not seen them; its own one waits yet, and is the next one.
		if o := edit(t, c, "c"); o.At.Time != 3 {
			t.Errorf("the clock: %v", o.At)
		}
		b.takeItem(b.item(f.Epoch, f.Blob), &r)
		b.all(c)
		b.at(c, b.many())
		if c.Waits() != 1 {
			t.Errorf("%d wait", c.Waits())
		}
	}
}

// Epochs: the group's less 1 is read yet.
func TestTheEpochAhead(t *testing.T) {
	for _, who := range []int{1, 2} {
		b := bookOf(t, vault.Real())
		b.control(api.RecAdd, 2)
		b.create(2, 1, "a")
		b.control(api.RecRotate, 0)
		c := b.member(who)
		b.take(2, b.made(api.Record{Kind: api.RecOp, From: 2, Op: create(2, 2, "b")}))
		b.take(2, b.made(api.Record{Kind: api.RecOp, From: 1, Op: create(1, 2, "c")}))
		b.take(3, b.made(api.Record{Kind: api.RecOp, From: 2, Op: create(2, 3, "d")}))
		b.take(2, b.made(api.Record{Kind: api.RecOp, From: 2, Op: create(2, 4, "e")}))
		// Of the admin's, it does not count there.
		b.take(2, b.made(api.Record{Kind: api.RecRotate, From: 1}))
		b.all(c)
		b.at(c, b.many())
		if len(c.Nodes()) != 5 || c.Group().Epoch != 3 {
			t.Errorf("%d: %d nodes", who, len(c.Nodes()))
		}
	}
}

// What does not count is accepted: its number counts, and nothing else.
func TestWhatDoesNotCount(t *testing.T) {
	for _, who := range []int{1, 2} {
		b := bookOf(t, vault.Real())
		b.control(api.RecAdd, 2)
		b.control(api.RecAdd, 3)
		b.control(api.RecRemove, 3)
		b.create(2, 1, "a")
		c := b.member(who)
		for _, r := range []api.Record{
			{Kind: api.RecOp, From: 3, Op: create(3, 70, "no member")}, {Kind: api.RecOp, From: 6, Op: create(6, 70, "no member")},
			{Kind: api.RecAdd, From: 2, Who: 4}, {Kind: api.RecRemove, From: 2, Who: 1}, {Kind: api.RecRotate, From: 2}, {Kind: api.RecAdd, From: 3, Who: 3},
			{Kind: api.RecAdd, From: 1, Who: 2}, {Kind: api.RecAdd, From: 1, Who: 1}, {Kind: api.RecRemove, From: 1, Who: 1}, {Kind: api.RecRemove, From: 1, Who: 3},
		} {
			epoch := b.epoch()
			b.do(r)
			b.all(c)
			b.at(c, b.many())
			if c.Tampered() || b.epoch() != epoch || len(c.Nodes()) != 1 {
				t.Fatalf("%s: %s", short(r), short(shapeOf(c)))
			}
		}
		if o := edit(t, c, "b"); o.At.Time != 2 {
			t.Errorf("the clock has seen what did not count: %v", o.At)
		}
	}
}

// Of 500 operations each counts, and no other one.
func TestTheMostOperations(t *testing.T) {
	b := bookOf(t, vault.Real())
	b.control(api.RecAdd, 2)
	for k := range 503 {
		b.create(1+k%2, k+1, "a")
	}
	c := b.admin()
	b.at(c, 504)
	if len(c.Nodes()) != 500 || c.Group().Ops != 500 {
		t.Errorf("%d nodes, %d operations", len(c.Nodes()), c.Group().Ops)
	}
	if o := edit(t, c, "b"); o.At.Time != 501 {
		t.Errorf("the clock: %v", o.At)
	}
}

// forged is a way in which a client is tampered: an item that can't have come. Some are seen by one member alone.
type forged struct {
	name string
	make func(b *book) api.Item
	only int
}

func (f forged) seen(who int) bool { return f.only == 0 || f.only == who }

// forgeries are such ones, of a group of 1, 2 and 3, in the epoch 4, that has had more than 40 records.
func forgeries() []forged {
	op := func(who int) api.Record { return api.Record{Kind: api.RecOp, From: who, Op: create(who, 500, "f")} }
	changed := func(change func(b *book, r *api.Record)) func(b *book) api.Item {
		return func(b *book) api.Item {
			r := b.made(op(2))
			change(b, &r)
			return b.item(4, b.blob(4, r))
		}
	}
	sealed := func(seal func(b *book, r api.Record) string) func(b *book) api.Item {
		return func(b *book) api.Item { return b.item(4, seal(b, b.made(op(2)))) }
	}
	by := func(key func(b *book) string, nonce, bound string) func(b *book) api.Item {
		return sealed(func(b *book, r api.Record) string {
			p, _ := pad.Pad(b.bytesOf(r))
			if nonce == "" {
				nonce = "\x02\x00\x00\x00\x00\x00" + numbers(r.Count)
			}
			return b.sealedSo(key(b), nonce, bound, p)
		})
	}
	sendKey := func(epoch, who int) func(b *book) string {
		return func(*book) string {
			s, _ := keys.Send(key(epoch), who)
			return s
		}
	}
	l := []forged{
		{name: "an epoch above the group's", make: func(b *book) api.Item { return b.item(5, b.blob(5, b.made(op(2)))) }},
		{name: "a great epoch", make: func(b *book) api.Item { return b.item(maxTime, b.blob(4, b.made(op(2)))) }},
		{name: "the epoch ahead, told as the group's", make: func(b *book) api.Item { return b.item(4, b.blob(3, b.made(op(2)))) }},
		{name: "the group's epoch, told as the one ahead", make: func(b *book) api.Item { return b.item(3, b.blob(4, b.made(op(2)))) }},
		{name: "nothing", make: func(b *book) api.Item { return b.item(4, "") }},
		{name: "sealed by no one", make: func(b *book) api.Item { return b.item(4, text(272)) }},
		{name: "cut", make: sealed(func(b *book, r api.Record) string { s := b.blob(4, r); return s[:len(s)-1] })},
		{name: "longer", make: sealed(func(b *book, r api.Record) string { return b.blob(4, r) + "\x00" })},
		{name: "not sealed", make: sealed(func(b *book, r api.Record) string { s, _ := pad.Pad(b.bytesOf(r)); return s })},
		{name: "sealed by another one's key", make: by(sendKey(4, 3), "", "record")},
		{name: "sealed by an old key", make: by(sendKey(2, 2), "", "record")},
		{name: "sealed by the epoch's key itself", make: by(func(*book) string { return key(4) }, "", "record")},
		{name: "sealed by the key of snapshots", make: by(func(*book) string { s, _ := keys.Keep(key(4)); return s }, "", "record")},
		{name: "with another one's nonce", make: by(sendKey(4, 2), "\x03\x00\x00\x00\x00\x00"+numbers(30), "record")},
		{name: "bound to something else", make: by(sendKey(4, 2), "", "keep")},
		{name: "bound to nothing", make: by(sendKey(4, 2), "", "")},
		{name: "not padded", make: sealed(func(b *book, r api.Record) string {
			k, _ := keys.Send(key(4), 2)
			return b.sealedSo(k, "\x02\x00\x00\x00\x00\x00"+numbers(r.Count), "record", b.bytesOf(r))
		})},
		{name: "no record", make: sealed(func(b *book, r api.Record) string { return b.sealedBy(4, 2, r.Count, "junk") })},
		{name: "no bytes", make: sealed(func(b *book, r api.Record) string { return b.sealedBy(4, 2, r.Count, "") })},
		{name: "a record and a byte", make: sealed(func(b *book, r api.Record) string { return b.sealedBy(4, 2, r.Count, b.bytesOf(r)+"\x00") })},
		{name: "a record of another one", make: sealed(func(b *book, r api.Record) string { return b.sealedBy(4, 2, r.Count, b.bytesOf(b.made(op(3)))) })},
		{name: "the same number again", make: changed(func(_ *book, r *api.Record) { r.Count-- })},
		{name: "a number left out", make: changed(func(_ *book, r *api.Record) { r.Count++ })},
		{name: "a great number", make: changed(func(_ *book, r *api.Record) { r.Count = maxTime })},
		{name: "a number and another one in it", make: sealed(func(b *book, r api.Record) string {
			n := r.Count
			r.Count++
			return b.sealedBy(4, 2, n, b.bytesOf(r))
		})},
		{name: "a Seq of its own number", make: changed(func(b *book, r *api.Record) { r.Seq++ })},
		{name: "a Seq to come", make: changed(func(b *book, r *api.Record) { r.Seq += 2 })},
		{name: "a great Seq", make: changed(func(b *book, r *api.Record) { r.Seq = maxTime })},
		{name: "another Head", make: changed(func(b *book, r *api.Record) { r.Head = text(32) })},
		{name: "the Head of the one ahead", make: changed(func(b *book, r *api.Record) { r.Head = b.pages[b.many()-1].chain })},
		{name: "a Head of long ago", make: changed(func(b *book, r *api.Record) { r.Seq -= 7 })},
		{name: "a Head of the oldest chain that there is", make: changed(func(b *book, r *api.Record) { r.Seq -= 30 })},
		{name: "a rotation without keys", make: func(b *book) api.Item {
			r := b.made(api.Record{Kind: api.RecRotate, From: 1})
			r.Wraps = nil
			return b.item(4, b.blob(4, r))
		}},
	}
	for who := 1; who <= 2; who++ {
		l = append(l, wrapsForged(who)...)
	}
	return append(l, taken()...)
}

// wrapsForged are records of the admin's in which someone's key is none.
func wrapsForged(who int) []forged {
	change := func(f func(w *api.Wrap)) func(b *book) api.Item {
		return func(b *book) api.Item {
			r := b.made(api.Record{Kind: api.RecAdd, From: 1, Who: 6})
			f(&r.Wraps[who-1])
			return b.item(4, b.blob(4, r))
		}
	}
	return []forged{
		{only: who, name: "a wrap turned", make: change(func(w *api.Wrap) { w.Text = w.Text[:47] + string([]byte{w.Text[47] ^ 1}) })},
		{only: who, name: "a wrap of another epoch", make: change(func(w *api.Wrap) { w.Text = wrap(who, 4) })},
		{only: who, name: "a wrap of another one", make: change(func(w *api.Wrap) { w.Text = wrap(3, 5) })},
		{only: who, name: "a wrap that is missing", make: func(b *book) api.Item {
			r := b.made(api.Record{Kind: api.RecRotate, From: 1})
			r.Wraps = slices.Delete(r.Wraps, who-1, who)
			return b.item(4, b.blob(4, r))
		}},
	}
}

// taken are items as the relay had them, but of other places, or with a bit turned.
func taken() []forged {
	l := []forged{
		{name: "the last one again", make: func(b *book) api.Item { return b.item(4, b.items[b.many()-1].Blob) }},
		{name: "one of long ago", make: func(b *book) api.Item { return b.item(4, b.items[b.many()-5].Blob) }},
		{name: "one left out", make: func(b *book) api.Item {
			x := b.copied()
			x.create(2, 300, "left out")
			i := x.create(3, 301, "next")
			i.Seq--
			return i
		}},
		{name: "one left out, of the same sender", make: func(b *book) api.Item {
			x := b.copied()
			x.create(2, 300, "left out")
			i := x.create(2, 301, "next")
			i.Seq--
			return i
		}},
		{name: "one of another log", make: func(b *book) api.Item {
			x := b.until(b.many() - 1)
			x.create(3, 300, "another one")
			i := x.create(2, 300, "next")
			return i
		}},
	}
	for _, at := range []int{0, 1, 31, 32, 63, 64, 127, 128, 143} {
		for _, bit := range []byte{1, 2, 128} {
			l = append(l, forged{name: fmt.Sprintf("byte %d turned by %d", at, bit), make: func(b *book) api.Item {
				x := []byte(b.blob(4, b.made(api.Record{Kind: api.RecOp, From: 2, Op: create(2, 500, "f")})))
				x[at%len(x)] ^= bit
				return b.item(4, string(x))
			}})
		}
	}
	return l
}

// long is a book of a group of 1, 2 and 3, in the epoch 4, with more than 40 records.
func long(t *testing.T, s *vault.Sealer) *book {
	t.Helper()
	b := bookOf(t, s)
	b.control(api.RecAdd, 2)
	b.control(api.RecAdd, 3)
	for k := range 20 {
		b.create(1+k%3, k+1, "a")
	}
	b.control(api.RecRotate, 0)
	for k := range 22 {
		b.create(1+k%3, 30+k, "b")
	}
	return b
}

func TestTampered(t *testing.T) {
	for _, s := range []*vault.Sealer{vault.Real(), vault.Ideal("seed")} {
		b := long(t, s)
		for _, who := range []int{1, 2} {
			c := b.admin()
			if who != 1 {
				c = b.until(3).member(who)
				b.all(c)
			}
			edit(t, c, "waits")
			send(t, c)
			for _, f := range forgeries() {
				if s.Many() >= 0 && strings.HasPrefix(f.name, "byte") {
					continue
				}
				i := f.make(b)
				if i.Seq != b.many()+1 {
					t.Fatalf("%s: the number %d", f.name, i.Seq)
				}
				if !f.seen(who) {
					x := open(t, twin(t, c.device), b.seal, who)
					hears(t, x, given(t, i), api.OK)
					continue
				}
				isTampered(t, b, c, f.name, i)
			}
		}
	}
}

// isTampered holds that a client is tampered by an item, be it alone or behind others, and has what it had ahead of the frame.
func isTampered(t *testing.T, b *book, c *Client, name string, i api.Item) {
	t.Helper()
	who := c.has.who
	was := shapeOf(c)
	tell := func(y *Client, what string) {
		t.Helper()
		is := shapeOf(y)
		if !is.Tampered || is.FetchE != api.ErrTampered || is.JoinE != api.ErrTampered || is.Fetch != "" || is.Join != "" {
			t.Fatalf("%s, %s: %s", name, what, short(is))
		}
		is.Tampered, is.Fetch, is.FetchE, is.Join, is.JoinE = false, was.Fetch, api.OK, was.Join, api.OK
		if !is.is(was) {
			t.Fatalf("%s, %s: \n%s, not\n%s", name, what, short(is), short(was))
		}
	}
	next := i
	next.Seq++
	for _, l := range [][]api.Item{{i}, {i, next}} {
		x := open(t, twin(t, c.device), b.seal, who)
		if e := x.Hear(given(t, l...)); e != api.ErrTampered {
			t.Fatalf("%s: %d, not ErrTampered", name, e)
		}
		tell(x, "alone")
		tell(open(t, x.device, b.seal, who), "opened anew")
	}
}

// In the midst of a frame: what was accepted ahead of the frame is all that it has.
func TestTamperedInTheMidst(t *testing.T) {
	for _, who := range []int{1, 2} {
		for _, f := range forgeries() {
			if !f.seen(who) {
				continue
			}
			b := long(t, vault.Real())
			c := b.admin()
			if who != 1 {
				c = b.member(who)
			}
			edit(t, c, "waits")
			r := send(t, c)
			many := b.many()
			b.create(3, 100, "c")
			b.takeFrame(c, r)
			b.create(3, 101, "d")
			i := f.make(b)
			frame := append(slices.Clone(b.items[many:]), i)
			b.takeItem(i, nil)
			b.takeItem(b.item(4, "x"), nil)
			frame = append(frame, b.items[b.many()-1])
			was := shapeOf(c)
			if e := c.Hear(given(t, frame...)); e != api.ErrTampered {
				t.Fatalf("%s: %d, not ErrTampered", f.name, e)
			}
			for range 2 {
				is := shapeOf(c)
				if !is.Tampered {
					t.Fatalf("%s: it is not tampered", f.name)
				}
				is.Tampered, is.Fetch, is.FetchE, is.Join, is.JoinE = false, was.Fetch, api.OK, was.Join, api.OK
				if !is.is(was) {
					t.Fatalf("%s: \n%s, not\n%s", f.name, short(is), short(was))
				}
				c = open(t, c.device, b.seal, who)
			}
		}
	}
}

// Of what nobody can be asked any more: a Head of a chain that is too long ago may be any.
func TestHeadsOfLongAgo(t *testing.T) {
	for back := 1; back <= 40; back++ {
		b := long(t, vault.Real())
		c := b.admin()
		r := b.made(api.Record{Kind: api.RecOp, From: 2, Op: create(2, 500, "f")})
		// Back from the number that it will have.
		r.Seq = b.many() + 1 - back
		r.Head = text(32)
		i := b.item(4, b.blob(4, r))
		want := api.ErrTampered
		if back >= 32 {
			want = api.OK
		}
		hears(t, c, given(t, i), want)
		// The right Head is never a fault.
		c = b.admin()
		r.Head = b.pages[r.Seq].chain
		hears(t, c, given(t, b.item(4, b.blob(4, r))), api.OK)
	}
}

// The chain of no records is one of those that are known, till there are more than 31.
func TestHeadsOfTheBeginning(t *testing.T) {
	for n := 0; n < 34; n++ {
		b := bookOf(t, vault.Real())
		for k := range n {
			b.create(1, k+1, "a")
		}
		r := b.made(api.Record{Kind: api.RecOp, From: 1, Op: create(1, 500, "f")})
		r.Seq, r.Head = 0, text(32)
		want := api.ErrTampered
		if n >= 31 {
			want = api.OK
		}
		c := b.admin()
		hears(t, c, given(t, b.item(1, b.blob(1, r))), want)
	}
}

// In the epoch 1 there is no epoch ahead: what says 0 was sealed by no one.
func TestTheEpoch0(t *testing.T) {
	b := bookOf(t, vault.Real())
	c := b.admin()
	hears(t, c, given(t, b.item(0, b.blob(1, b.made(api.Record{Kind: api.RecOp, From: 1, Op: create(1, 1, "a")})))), api.ErrTampered)
	if !c.Tampered() {
		t.Error("it is not tampered")
	}
}

// Its own record that comes back waits no more; others' let it wait.
func TestItsOwnComesBack(t *testing.T) {
	for who := 1; who <= 2; who++ {
		b := bookOf(t, vault.Real())
		b.control(api.RecAdd, 2)
		b.create(2, 1, "a")
		c := b.member(who)
		first, second := edit(t, c, "first"), edit(t, c, "second")
		b.create(3-who, 2, "b")
		b.all(c)
		f := send(t, c)
		b.create(3-who, 3, "c")
		b.all(c)
		if c.Waits() != 2 {
			t.Fatalf("%d wait", c.Waits())
		}
		b.takeFrame(c, f)
		b.all(c)
		if c.Waits() != 1 {
			t.Fatalf("%d wait", c.Waits())
		}
		if _, ok := c.Next(); ok {
			t.Error("the next one is sealed")
		}
		b.at(c, b.many())
		b.sent(c)
		b.at(c, b.many())
		var l []api.Stamp
		for _, n := range c.Nodes() {
			l = append(l, n.Id)
		}
		if c.Waits() != 0 || !slices.Contains(l, first.At) || !slices.Contains(l, second.At) {
			t.Errorf("%d wait, %v", c.Waits(), l)
		}
		// One that it did not send, though sealed as its own: nothing waits, and nothing does then.
		b.create(who, 90, "d")
		b.all(c)
		b.at(c, b.many())
		if c.Waits() != 0 || c.Tampered() {
			t.Errorf("%d wait", c.Waits())
		}
	}
}

// An own record that does not count comes back, too.
func TestItsOwnThatDoesNotCount(t *testing.T) {
	b := bookOf(t, vault.Real())
	c := b.admin()
	control(t, c, api.RecRemove, 4)
	edit(t, c, "a")
	b.sent(c)
	if c.Waits() != 1 || c.Group().Epoch != 1 || c.Group().Members[0].Count != 1 {
		t.Errorf("%s", short(shapeOf(c)))
	}
	b.sent(c)
	b.at(c, 2)
}

// Who has which keys behind an addition, a removal and a rotation.
func TestWhoHasWhichKeys(t *testing.T) {
	b := bookOf(t, vault.Real())
	all := map[int]*Client{1: b.admin()}
	for who := 2; who <= 6; who++ {
		all[who] = client(t, b.seal, who)
	}
	hold := func(what string, want map[int][]int) {
		t.Helper()
		for who := 1; who <= 6; who++ {
			if l := all[who].Epochs(); !slices.Equal(l, want[who]) || all[who].Joined() != (len(l) > 0) {
				t.Errorf("%s: %d has the keys of %v, not %v", what, who, l, want[who])
			}
		}
	}
	heard := func() {
		t.Helper()
		for who := 1; who <= 6; who++ {
			if all[who].Joined() {
				b.all(all[who])
			}
		}
	}
	hold("at first", map[int][]int{1: {1}})
	b.control(api.RecAdd, 2)
	heard()
	hold("added, but not joined", map[int][]int{1: {1, 2}})
	for who := 2; who <= 6; who++ {
		want := api.ErrSeal
		if who == 2 {
			want = api.OK
		}
		hears(t, all[who], b.snap(), want)
	}
	hold("joined", map[int][]int{1: {1, 2}, 2: {1, 2}})
	b.control(api.RecAdd, 3)
	b.control(api.RecRotate, 0)
	heard()
	hears(t, all[3], b.snap(), api.OK)
	hold("a rotation", map[int][]int{1: {3, 4}, 2: {3, 4}, 3: {3, 4}})
	b.control(api.RecRemove, 2)
	heard()
	hold("a removal", map[int][]int{1: {4, 5}, 3: {4, 5}})
	hears(t, all[2], b.snap(), api.OK)
	hold("the removed one asks", map[int][]int{1: {4, 5}, 3: {4, 5}})
	b.create(1, 1, "a")
	heard()
	hears(t, all[2], b.snap(), api.ErrSeal)
	b.control(api.RecAdd, 2)
	heard()
	hold("added again", map[int][]int{1: {5, 6}, 3: {5, 6}})
	hears(t, all[2], b.snap(), api.OK)
	hold("joined again", map[int][]int{1: {5, 6}, 2: {5, 6}, 3: {5, 6}})
	for who := 1; who <= 3; who++ {
		b.at(all[who], b.many())
	}
}

// The removed one: in the midst of a frame, of which the rest is let be, whatever it is.
func TestTheRemovedOne(t *testing.T) {
	for _, rest := range []string{"none", "fine", "forged"} {
		b := bookOf(t, vault.Ideal("seed"))
		b.control(api.RecAdd, 2)
		b.control(api.RecAdd, 3)
		b.create(2, 1, "a")
		c := b.member(2)
		for range 3 {
			edit(t, c, "waits")
		}
		f := send(t, c)
		r, _ := c.Next()
		from := b.many()
		b.create(3, 2, "b")
		b.control(api.RecRemove, 2)
		many := b.many()
		switch rest {
		case "fine":
			b.create(1, 3, "c")
			// What it sent comes too late to count.
			b.takeItem(b.item(f.Epoch, f.Blob), &r)
			b.create(3, 3, "d")
		case "forged":
			b.takeItem(b.item(9, "x"), nil)
		}
		frame := given(t, b.items[from:]...)
		hears(t, c, frame, api.OK)
		for range 2 {
			b.at(c, many)
			if c.Joined() || c.Tampered() || len(c.Epochs()) != 0 || c.Waits() != 0 {
				t.Errorf("%s: %s", rest, short(shapeOf(c)))
			}
			if x, ok := c.Next(); ok || !reflect.DeepEqual(x, api.Record{}) {
				t.Error("something is sealed yet")
			}
			waits(t, b, c)
			c = open(t, c.device, b.seal, 2)
		}
		if rest == "forged" {
			continue
		}
		hears(t, c, b.snap(), map[string]api.Errno{"none": api.OK, "fine": api.ErrSeal}[rest])
		b.control(api.RecAdd, 2)
		hears(t, c, b.snap(), api.OK)
		b.at(c, b.many())
		if !c.Joined() || c.Waits() != 0 || !slices.Equal(c.Epochs(), []int{4, 5}) {
			t.Errorf("%s: %s", rest, short(shapeOf(c)))
		}
		o := edit(t, c, "e")
		b.sent(c)
		if l := c.Nodes(); !slices.ContainsFunc(l, func(n api.Node) bool { return n.Id == o.At }) {
			t.Error("what it does then is not shown")
		}
	}
}

// Numbers that are not the next ones are told of the whole frame, the rest behind a removal, too.
func TestNumbersBehindARemoval(t *testing.T) {
	b := bookOf(t, vault.Ideal("seed"))
	b.control(api.RecAdd, 2)
	c := b.member(2)
	b.control(api.RecRemove, 2)
	i := b.item(3, "x")
	i.Seq++
	refused(t, c, api.ErrWire, hearing(c, given(t, b.items[1], i)))
	i.Seq--
	hears(t, c, given(t, b.items[1], i), api.OK)
	b.at(c, 2)
}

// What another one does who was removed does not count.
func TestWhatARemovedOneDoes(t *testing.T) {
	b := bookOf(t, vault.Real())
	b.control(api.RecAdd, 2)
	b.control(api.RecAdd, 3)
	c := b.member(3)
	b.control(api.RecRemove, 2)
	// It has the key of the epoch ahead yet.
	b.take(3, b.made(api.Record{Kind: api.RecOp, From: 2, Op: create(2, 5, "a")}))
	b.all(c)
	b.at(c, 4)
	if len(c.Nodes()) != 0 || c.Group().Members[1].Count != 1 || c.Tampered() {
		t.Errorf("%s", short(shapeOf(c)))
	}
}

// The clock has seen all that counted.
func TestTheClock(t *testing.T) {
	b := bookOf(t, vault.Real())
	b.control(api.RecAdd, 2)
	b.create(2, 40, "a")
	c := b.member(1)
	if o := edit(t, c, "b"); o.At != (api.Stamp{Time: 41, Who: 1}) {
		t.Errorf("%v", o.At)
	}
	b.create(2, 50, "c")
	b.create(2, 45, "d")
	b.all(c)
	c = open(t, c.device, b.seal, 1)
	if o := edit(t, c, "e"); o.At.Time != 51 {
		t.Errorf("%v", o.At)
	}
	b.create(2, 50, "the same stamp once more")
	b.all(c)
	if o := edit(t, c, "f"); o.At.Time != 52 {
		t.Errorf("%v", o.At)
	}
}

// kept is the tree that the admin's snapshot tells.
func kept(t *testing.T, b *book, c *Client) api.Snap {
	t.Helper()
	s, e := c.Keep()
	f, bad := wire.Take(s)
	if e != api.OK || bad != api.OK {
		t.Fatalf("Keep: %d %d", e, bad)
	}
	k, _ := keys.Keep(key(f.Epoch))
	p, e := b.seal.Open(k, "\x00\x00\x00\x00\x00\x00"+numbers(f.Seq), "keep", f.Blob[6*48:])
	if e != api.OK {
		t.Fatal(e)
	}
	text, _ := pad.Unpad(p)
	in := code.NewIn(text)
	in.Num()
	for range in.Byte() {
		in.Text(32)
	}
	in.Text(1 << 16)
	in.Text(32)
	in.Text(32)
	for range 6 {
		in.Num()
	}
	x, e := snap.Take(in.Text(1 << 16))
	if e != api.OK || in.Done() != api.OK {
		t.Fatal(e, in.Done())
	}
	return x
}

// settled holds how many operations may yet be turned, and up to which stamp all is for good.
func settled(t *testing.T, b *book, c *Client, ops int, base api.Stamp) {
	t.Helper()
	for range 2 {
		if x := kept(t, b, c); len(x.Ops) != ops || x.Base != base {
			t.Errorf("%d operations behind %v, not %d behind %v", len(x.Ops), x.Base, ops, base)
		}
		b.at(c, b.many())
		c = open(t, twin(t, c.device), b.seal, 1)
	}
}

func TestMoreThan64Operations(t *testing.T) {
	root := api.Stamp{}
	b := bookOf(t, vault.Real())
	for k := range 64 {
		b.create(1, k+1, "a")
	}
	c := b.admin()
	settled(t, b, c, 64, root)
	hears(t, c, given(t), api.OK)
	settled(t, b, c, 64, root)
	b.create(1, 65, "a")
	b.all(c)
	settled(t, b, c, 0, api.Stamp{Time: 65, Who: 6})
	for k := range 64 {
		b.create(1, 66+k, "b")
		b.all(c)
	}
	settled(t, b, c, 64, api.Stamp{Time: 65, Who: 6})
	b.create(1, 130, "b")
	b.all(c)
	settled(t, b, c, 0, api.Stamp{Time: 130, Who: 6})
}

// The greatest time of each counts, not the last one.
func TestTheGreatestTimes(t *testing.T) {
	b := bookOf(t, vault.Real())
	for k := range 65 {
		b.create(1, 2*k+2, "a")
	}
	c := b.until(60).admin()
	b.create(1, 3, "b")
	b.all(c)
	settled(t, b, c, 0, api.Stamp{Time: 130, Who: 6})
}

// It is asked behind all items of a frame, not behind each.
func TestBehindAllItems(t *testing.T) {
	b := bookOf(t, vault.Real())
	for k := range 70 {
		b.create(1, k+1, "a")
	}
	c := client(t, b.seal, 1)
	hears(t, c, given(t, b.items[:32]...), api.OK)
	hears(t, c, given(t, b.items[32:60]...), api.OK)
	hears(t, c, given(t, b.items[60:70]...), api.OK)
	settled(t, b, c, 0, api.Stamp{Time: 70, Who: 6})
}

// Who is a member, and has done nothing of late, lets all that came since be turned; who is none does not.
func TestWhatCanYetBeTurned(t *testing.T) {
	b := bookOf(t, vault.Real())
	b.control(api.RecAdd, 2)
	b.control(api.RecAdd, 3)
	b.create(3, 7, "c")
	for k := range 40 {
		b.create(1, 10+2*k, "a")
		b.create(2, 11+2*k, "b")
	}
	c := b.admin()
	// 3 was last seen at 7: of 81 operations that one is for good.
	settled(t, b, c, 80, api.Stamp{Time: 7, Who: 6})
	b.control(api.RecAdd, 4)
	b.all(c)
	settled(t, b, c, 80, api.Stamp{Time: 7, Who: 6})
	b.create(3, 30, "c")
	b.all(c)
	// 4 was not seen yet.
	settled(t, b, c, 81, api.Stamp{Time: 7, Who: 6})
	b.control(api.RecRemove, 4)
	b.all(c)
	// Up to 30, also of 3: 10 to 30.
	settled(t, b, c, 81-22, api.Stamp{Time: 30, Who: 6})
	b.control(api.RecRemove, 3)
	for k := range 5 {
		b.create(1, 100+k, "d")
	}
	b.all(c)
	settled(t, b, c, 64, api.Stamp{Time: 30, Who: 6})
	b.create(1, 105, "d")
	b.all(c)
	settled(t, b, c, 6, api.Stamp{Time: 89, Who: 6})
}

// An operation that is older than what is for good comes too late; it counts all the same.
func TestTooLateToBeDone(t *testing.T) {
	b := bookOf(t, vault.Real())
	b.control(api.RecAdd, 2)
	for k := range 66 {
		b.create(1, 100+k, "a")
	}
	b.create(2, 200, "b")
	c := b.admin()
	b.create(2, 3, "too late")
	hears(t, c, given(t, b.items[b.many()-1]), api.OK)
	if c.Tampered() || len(c.Nodes()) != 67 || c.Group().Ops != 68 {
		t.Errorf("%d nodes, %d operations", len(c.Nodes()), c.Group().Ops)
	}
}

// Cl6.

// A good snapshot: it has what that says.
func TestSnapshot(t *testing.T) {
	b := long(t, vault.Real())
	for _, who := range []int{1, 2, 3} {
		for _, n := range []int{0, 1, 2, 3, 4, 10, 23, 24, b.many() - 1} {
			if !group.In(b.pages[n].group, who) && n > 0 {
				continue
			}
			c := client(t, b.seal, who)
			if n > 0 {
				c = b.until(n).member(who)
			}
			hears(t, c, b.snap(), api.OK)
			for range 2 {
				b.at(c, b.many())
				if !c.Joined() || c.Tampered() || c.Waits() != 0 || !slices.Equal(c.Epochs(), []int{3, 4}) {
					t.Errorf("%d: %s", who, short(shapeOf(c)))
				}
				c = open(t, c.device, b.seal, who)
			}
			// And it goes on.
			x := b.copied()
			x.create(3, 60, "c")
			x.control(api.RecRotate, 0)
			x.all(c)
			x.at(c, x.many())
			if o := edit(t, c, "d"); o.At.Time != 61 {
				t.Errorf("its clock: %v", o.At)
			}
		}
	}
}

// A tree of which something is for good.
func TestSnapshotOfATree(t *testing.T) {
	b := long(t, vault.Real())
	x := b.content(b.many())
	y, _ := tree.Of(x.tree)
	y.Compact(api.Stamp{Time: 33, Who: 2})
	x.tree = api.Snap{Nodes: y.Fixed(), Ops: y.Ops(), Base: y.Base()}
	c := client(t, b.seal, 2)
	hears(t, c, b.snapOf(x), api.OK)
	b.at(c, b.many())
}

// One that is not above what it accepted is let be, whatever it is.
func TestSnapshotsOfThePast(t *testing.T) {
	b := long(t, vault.Ideal("seed"))
	c := b.member(2)
	edit(t, c, "a")
	send(t, c)
	for _, n := range []int{0, 1, 2, 3, 10, b.many() - 1, b.many()} {
		refused(t, c, api.OK, hearing(c, b.until(n).snap()))
		refused(t, c, api.OK, hearing(c, asBytes(t, api.Frame{Kind: api.FrameSnap, Seq: n, Epoch: 9, Blob: "junk"})))
	}
	// Nor does one who has not joined hear of nothing.
	c = client(t, b.seal, 2)
	refused(t, c, api.OK, hearing(c, b.until(0).snap()))
}

// Those that can't be opened, or say nothing: of who has the key, of who unwraps it, of who has accepted something, or not.
func TestSnapshotsThatAreNone(t *testing.T) {
	b := long(t, vault.Ideal("seed"))
	b.control(api.RecRotate, 0)
	n := b.many()
	x := b.content(n)
	good := b.contentBytes(x)
	blob := b.snapBlob(5, n, x.group, good)
	frame := func(seq, epoch int, blob string) string {
		return asBytes(t, api.Frame{Kind: api.FrameSnap, Seq: seq, Epoch: epoch, Blob: blob})
	}
	with := func(f func(x *content)) string {
		y := x
		y.chains, y.group.Members = slices.Clone(x.chains), slices.Clone(x.group.Members)
		f(&y)
		return frame(n, 5, b.snapBlob(5, n, x.group, b.contentBytes(y)))
	}
	says := func(s string) string { return frame(n, 5, b.snapBlob(5, n, x.group, s)) }
	wraps, sealed := blob[:6*48], blob[6*48:]
	keep, _ := keys.Keep(key(5))
	sendKey, _ := keys.Send(key(5), 1)
	nonce := "\x00\x00\x00\x00\x00\x00" + numbers(n)
	padded, _ := pad.Pad(good)
	bad := map[string]string{
		"no bytes":                      frame(n, 5, ""),
		"the wraps alone":               frame(n, 5, wraps),
		"fewer":                         frame(n, 5, wraps[:6*48-1]),
		"no wraps":                      frame(n, 5, sealed),
		"cut":                           frame(n, 5, blob[:len(blob)-1]),
		"longer":                        frame(n, 5, blob+"\x00"),
		"a bit turned":                  frame(n, 5, blob[:len(blob)-1]+string([]byte{blob[len(blob)-1] ^ 1})),
		"another number":                frame(n+1, 5, blob),
		"another epoch":                 frame(n, 4, blob),
		"an epoch to come":              frame(n, 6, blob),
		"a great epoch":                 frame(n, maxTime, blob),
		"the epoch 0":                   frame(n, 0, blob),
		"sealed by the key to send":     frame(n, 5, wraps+b.sealedSo(sendKey, nonce, "keep", padded)),
		"sealed by the epoch's key":     frame(n, 5, wraps+b.sealedSo(key(5), nonce, "keep", padded)),
		"a member's nonce":              frame(n, 5, wraps+b.sealedSo(keep, "\x01"+nonce[1:], "keep", padded)),
		"bound to something else":       frame(n, 5, wraps+b.sealedSo(keep, nonce, "record", padded)),
		"not padded":                    frame(n, 5, wraps+b.sealedSo(keep, nonce, "keep", good)),
		"nothing said":                  says(""),
		"junk":                          says("junk"),
		"less said":                     says(good[:len(good)-1]),
		"more said":                     says(good + "\x00"),
		"a number more":                 with(func(x *content) { x.many++ }),
		"a number less":                 with(func(x *content) { x.many-- }),
		"another epoch said":            with(func(x *content) { x.group.Epoch++ }),
		"an epoch less said":            with(func(x *content) { x.group.Epoch-- }),
		"no member":                     with(func(x *content) { x.group.Members[1].In = false }),
		"no chain":                      with(func(x *content) { x.chains = nil }),
		"33 chains":                     with(func(x *content) { x.chains = append([]string{text(32)}, x.chains...) }),
		"a chain of 31 bytes":           with(func(x *content) { x.chains[3] = text(31) }),
		"no key":                        with(func(x *content) { x.key = "" }),
		"no key, nor one ahead":         with(func(x *content) { x.ahead, x.key = "", "" }),
		"a key of 31 bytes, none ahead": with(func(x *content) { x.ahead, x.key = "", text(31) }),
		"a key of 33 bytes":             with(func(x *content) { x.key = text(33) }),
		"a key of 31 bytes":             with(func(x *content) { x.key = text(31) }),
		"a key of 31 bytes, ahead":      with(func(x *content) { x.ahead = text(31) }),
		"no group":                      says(strings.Replace(good, putGroup(x.group), "\x00\x00", 1)),
		"no tree":                       says(strings.Replace(good, putTree(x.tree), "\x00\x00", 1)),
		"a group that is none":          says(strings.Replace(good, putGroup(x.group), "\x00\x04junk", 1)),
		"a tree that is none":           says(strings.Replace(good, putTree(x.tree), "\x00\x04junk", 1)),
		"a chain more than the records": b.early(),
		"a key ahead of the first one":  b.first(),
	}
	for name, s := range bad {
		for _, of := range []int{2, 3} {
			// One who joins by it; one who has an old key; and one who has just that.
			for _, at := range []int{0, 24, n - 1} {
				c := client(t, b.seal, of)
				if at > 0 {
					c = b.until(at).member(of)
					edit(t, c, "waits")
					send(t, c)
				}
				if name == "no member" && of != 2 {
					continue
				}
				if f, _ := wire.Take(s); f.Seq <= at {
					continue
				}
				was := whole(c)
				if e := c.Hear(s); e != api.ErrSeal || whole(c) != was {
					t.Errorf("%s, of %d at %d: %d", name, of, at, e)
				}
			}
		}
	}
	// All of these by one good one.
	c := client(t, b.seal, 2)
	hears(t, c, frame(n, 5, blob), api.OK)
	b.at(c, n)
}

func putGroup(g api.Group) string {
	s, _ := group.Put(g)
	return asText(s)
}

func putTree(x api.Snap) string {
	s, _ := snap.Put(x)
	return asText(s)
}

// asText is a text as layer 9 has it.
func asText(s string) string {
	return string([]byte{byte(len(s) >> 8), byte(len(s))}) + s
}

// early is a snapshot of few records that tells of more chains than there can be, for who joins by it.
func (b *book) early() string {
	x := b.content(3)
	x.chains = append([]string{text(32)}, x.chains...)
	return b.snapOf(x)
}

// first is a snapshot of the epoch 1 that has a key of the epoch ahead, of 2 and 3 being members somehow.
func (b *book) first() string {
	x := b.content(1)
	x.group.Epoch, x.key, x.ahead = 1, key(1), key(2)
	x.group.Members = slices.Clone(x.group.Members)
	x.group.Members[1].In, x.group.Members[2].In = true, true
	return b.snapOf(x)
}

// The key is unwrapped, if it is not there yet; and if it is, the wraps may be anything.
func TestTheKeyOfASnapshot(t *testing.T) {
	b := long(t, vault.Real())
	at := b.many()
	b.create(1, 80, "c")
	same := b.content(b.many())
	blob := b.snapBlob(4, b.many(), same.group, b.contentBytes(same))
	frame := func(wraps string) string {
		return asBytes(t, api.Frame{Kind: api.FrameSnap, Seq: b.many(), Epoch: 4, Blob: wraps + blob[6*48:]})
	}
	for _, wraps := range []string{strings.Repeat("\x00", 6*48), text(6 * 48)} {
		c := b.until(at).member(2)
		hears(t, c, frame(wraps), api.OK)
		b.at(c, b.many())
		// The key of the epoch ahead will do, too.
		x := b.until(at)
		x.control(api.RecRotate, 0)
		y := x.content(at)
		y.many, y.chains = at+2, []string{x.pages[at].chain, x.pages[at+1].chain, text(32)}
		y.group = x.pages[at].group
		c = x.member(2)
		hears(t, c, asBytes(t, api.Frame{Kind: api.FrameSnap, Seq: at + 2, Epoch: 4, Blob: wraps + x.snapBlob(4, at+2, y.group, x.contentBytes(y))[6*48:]}), api.OK)
		if n, chain := c.Chain(); n != at+2 || chain != text(32) || !slices.Equal(c.Epochs(), []int{3, 4}) {
			t.Errorf("%d, the keys of %v", n, c.Epochs())
		}
		c = client(t, b.seal, 2)
		refused(t, c, api.ErrSeal, hearing(c, frame(wraps)))
		c = b.until(10).member(2)
		refused(t, c, api.ErrSeal, hearing(c, frame(wraps)))
	}
	// Only its own 48 bytes are looked at.
	for who := 1; who <= 3; who++ {
		for _, mine := range []bool{false, true} {
			wraps := []byte(text(6 * 48))
			if mine {
				copy(wraps[(who-1)*48:], wrap(who, 4))
			} else {
				copy(wraps, blob[:6*48])
				wraps[who*48-1] ^= 1
			}
			c := client(t, b.seal, who)
			want := api.ErrSeal
			if mine {
				want = api.OK
			}
			hears(t, c, frame(string(wraps)), want)
		}
	}
}

// Who was there, and hears of another past, is tampered.
func TestSnapshotsOfAnotherPast(t *testing.T) {
	b := long(t, vault.Ideal("seed"))
	at := b.many()
	b.create(3, 80, "c")
	b.create(3, 81, "d")
	n := b.many()
	change := func(f func(x *content)) string {
		x := b.content(n)
		x.group.Members = slices.Clone(x.group.Members)
		f(&x)
		return b.snapOf(x)
	}
	count := b.now().group.Members[1].Count
	for name, s := range map[string]string{
		"its own number less":     change(func(x *content) { x.group.Members[1].Count = count - 1 }),
		"its own number none":     change(func(x *content) { x.group.Members[1].Count = 0 }),
		"the chain where it is":   change(func(x *content) { x.chains[len(x.chains)-3] = text(32) }),
		"the chain ahead of that": change(func(x *content) { x.chains[len(x.chains)-4] = text(32) }),
		"the oldest chain":        change(func(x *content) { x.chains[0] = text(32) }),
		"all chains":              change(func(x *content) { x.chains = slices.Repeat([]string{text(32)}, 32) }),
	} {
		c := b.until(at).member(2)
		edit(t, c, "waits")
		send(t, c)
		was := shapeOf(c)
		hears(t, c, s, api.ErrTampered)
		for range 2 {
			is := shapeOf(c)
			if !is.Tampered {
				t.Fatalf("%s: it is not tampered", name)
			}
			is.Tampered, is.Fetch, is.FetchE, is.Join, is.JoinE = false, was.Fetch, api.OK, was.Join, api.OK
			if !is.is(was) {
				t.Errorf("%s: \n%s, not\n%s", name, short(is), short(was))
			}
			c = open(t, c.device, b.seal, 2)
		}
		tampers(t, b, c)
		// Who accepted nothing can not tell.
		c = client(t, b.seal, 2)
		hears(t, c, s, api.OK)
		if c.Tampered() || !c.Joined() {
			t.Errorf("%s: of a new one: %s", name, short(shapeOf(c)))
		}
	}
	// What is no fault: what only one of both has; another one's number; its own number more.
	for name, s := range map[string]string{
		"chains that it has not":      change(func(x *content) { x.chains[len(x.chains)-1] = text(32); x.chains[len(x.chains)-2] = text(31) + "x" }),
		"another one's number less":   change(func(x *content) { x.group.Members[2].Count = 0; x.group.Members[0].Count = 0 }),
		"its own number more":         change(func(x *content) { x.group.Members[1].Count += 9 }),
		"the chains that it has none": change(func(x *content) { x.chains = x.chains[30:] }),
	} {
		c := b.until(at).member(2)
		hears(t, c, s, api.OK)
		if k, _ := c.Chain(); k != n || c.Tampered() {
			t.Errorf("%s: %s", name, short(shapeOf(c)))
		}
	}
	// Who accepted nothing is not held to the chain of no records.
	for _, who := range []int{1, 2} {
		x := b.content(3)
		x.chains[0] = text(32)
		c := client(t, b.seal, who)
		hears(t, c, b.snapOf(x), api.OK)
		if k, _ := c.Chain(); k != 3 || c.Tampered() {
			t.Errorf("%d: %s", who, short(shapeOf(c)))
		}
	}
	// None of the chains is known to both.
	c := b.until(3).member(2)
	hears(t, c, change(func(x *content) { x.chains = slices.Repeat([]string{text(32)}, 32) }), api.OK)
}

// The admin, too: that accepted nothing, or something.
func TestSnapshotsForTheAdmin(t *testing.T) {
	b := long(t, vault.Real())
	c := client(t, b.seal, 1)
	edit(t, c, "waits")
	hears(t, c, b.snap(), api.OK)
	b.at(c, b.many())
	if c.Waits() != 1 || c.Tampered() {
		t.Errorf("%s", short(shapeOf(c)))
	}
	x := b.content(b.many())
	x.group.Members = slices.Clone(x.group.Members)
	x.group.Members[0].Count--
	c = b.until(b.many() - 1).member(1)
	hears(t, c, b.snapOf(x), api.OK)
	b.create(1, 400, "x")
	b.create(2, 401, "x")
	x = b.content(b.many())
	x.group.Members = slices.Clone(x.group.Members)
	x.group.Members[0].Count -= 2
	c = b.until(b.many() - 1).member(1)
	hears(t, c, b.snapOf(x), api.ErrTampered)
}

// What waits stays, and its clock; but what was sealed with a number that is not the next one there, was accepted already.
func TestWhatWaitsBehindASnapshot(t *testing.T) {
	for _, taken := range []bool{false, true} {
		for _, isSealed := range []bool{false, true} {
			b := bookOf(t, vault.Ideal("seed"))
			b.control(api.RecAdd, 2)
			b.create(2, 1, "a")
			c := b.member(2)
			var l []api.Op
			for range 3 {
				l = append(l, edit(t, c, "waits"))
			}
			var f api.Frame
			var r api.Record
			if isSealed {
				f = send(t, c)
				r, _ = c.Next()
			}
			b.create(1, 2, "b")
			switch {
			case taken && isSealed:
				b.takeItem(b.item(f.Epoch, f.Blob), &r)
			case taken:
				b.create(2, 2, "of its own, but not what waits")
			}
			b.create(1, 90, "c")
			hears(t, c, b.snap(), api.OK)
			c = open(t, c.device, b.seal, 2)
			b.at(c, b.many())
			want := 3
			if taken && isSealed {
				want = 2
			}
			if c.Waits() != want {
				t.Fatalf("taken %t, sealed %t: %d wait, not %d", taken, isSealed, c.Waits(), want)
			}
			x, ok := c.Next()
			if ok != (isSealed && !taken) || ok && !reflect.DeepEqual(x, r) {
				t.Errorf("taken %t, sealed %t: Next: %s", taken, isSealed, short(x))
			}
			if ok {
				refused(t, c, api.ErrWait, sends(c))
				hears(t, c, given(t), api.OK)
				if again := send(t, c); !reflect.DeepEqual(again, f) {
					t.Error("it is sent otherwise")
				}
				b.takeFrame(c, f)
				b.all(c)
				l = l[1:]
			} else {
				l = l[3-want:]
			}
			if o := edit(t, c, "d"); o.At.Time != 91 {
				t.Errorf("its clock: %v", o.At)
			}
			for _, o := range l {
				b.sent(c)
				if !slices.ContainsFunc(c.Nodes(), func(n api.Node) bool { return n.Id == o.At }) {
					t.Errorf("%v is not shown", o.At)
				}
			}
			b.at(c, b.many())
		}
	}
}

// A clock that is later than a snapshot's times stays so.
func TestTheClockBehindASnapshot(t *testing.T) {
	b := bookOf(t, vault.Real())
	b.control(api.RecAdd, 2)
	b.create(1, 3, "a")
	c := b.member(2)
	for range 10 {
		edit(t, c, "b")
	}
	b.create(1, 5, "c")
	hears(t, c, b.snap(), api.OK)
	if o := edit(t, c, "d"); o.At.Time != 14 {
		t.Errorf("%v", o.At)
	}
	// The times of the content, and nothing else, are seen.
	x := b.content(b.many())
	x.times[4] = 70
	y := client(t, b.seal, 2)
	hears(t, y, b.snapOf(x), api.OK)
	if o := edit(t, y, "d"); o.At.Time != 71 {
		t.Errorf("%v", o.At)
	}
}

// The times that a snapshot tells let things be for good, or not.
func TestTimesOfASnapshot(t *testing.T) {
	for _, of2 := range []int{0, 1, 7, 20} {
		b := bookOf(t, vault.Real())
		b.control(api.RecAdd, 2)
		b.create(2, 1, "c")
		for k := range 63 {
			b.create(1, k+2, "a")
		}
		x := b.content(b.many())
		x.times[1] = of2
		c := client(t, b.seal, 1)
		hears(t, c, b.snapOf(x), api.OK)
		settled(t, b, c, 64, api.Stamp{})
		// Ahead of the next items nothing is for good.
		hears(t, c, given(t), api.OK)
		settled(t, b, c, 64, api.Stamp{})
		b.create(1, 65, "b")
		b.all(c)
		want := api.Stamp{Time: of2, Who: 6}
		if of2 == 0 {
			want = api.Stamp{}
		}
		settled(t, b, c, 65-of2, want)
	}
}

// Whatever a content tells, that was sealed as one is: it is taken, and then left so on the device, or nothing changes.
func TestDrawnContents(t *testing.T) {
	draw := rand.New(rand.NewSource(7))
	b := long(t, vault.Real())
	n := b.many()
	var told [2]int
	for range 1000 {
		x := b.content(n)
		x.chains, x.group.Members = slices.Clone(x.chains), slices.Clone(x.group.Members)
		for range draw.Intn(4) {
			turnContent(draw, &x)
		}
		s := []byte(b.contentBytes(x))
		if draw.Intn(4) == 0 {
			s[draw.Intn(len(s))] ^= byte(1 << draw.Intn(8))
		}
		who := 1 + draw.Intn(3)
		c := client(t, b.seal, who)
		if draw.Intn(3) == 0 {
			c = b.until(n - 1 - draw.Intn(5)).member(who)
			edit(t, c, "waits")
			send(t, c)
		}
		was := whole(c)
		e := c.Hear(asBytes(t, api.Frame{Kind: api.FrameSnap, Seq: n, Epoch: 4, Blob: b.snapBlob(4, n, b.now().group, string(s))}))
		again := open(t, c.device, b.seal, who)
		if whole(again) != whole(c) || e == api.ErrSeal && whole(c) != was {
			t.Fatalf("%d: it is opened anew as another one: %s", e, short(x))
		}
		if e == api.OK {
			told[0]++
			if l := c.Epochs(); !c.Joined() || c.Tampered() || len(l) == 0 || l[len(l)-1] != 4 {
				t.Fatalf("joined %t, with the keys of %v", c.Joined(), l)
			}
		}
		if e == api.ErrSeal {
			told[1]++
		}
		callAll(c)
	}
	if told[0] < 100 || told[1] < 100 {
		t.Error("too few:", told)
	}
}

// turnContent lets a part of a content be another one.
func turnContent(draw *rand.Rand, x *content) {
	keys := []string{"", text(32), text(31), key(3), key(4)}
	m := &x.group.Members[draw.Intn(6)]
	switch draw.Intn(12) {
	case 0, 1:
		x.key = keys[draw.Intn(len(keys))]
	case 2, 3:
		x.ahead = keys[draw.Intn(len(keys))]
	case 4:
		x.ahead, x.key = "", keys[draw.Intn(len(keys))]
	case 5:
		x.chains = x.chains[draw.Intn(len(x.chains)+1):]
	case 6:
		if len(x.chains) > 0 {
			x.chains[draw.Intn(len(x.chains))] = text(30 + draw.Intn(4))
		}
	case 7:
		m.In = !m.In
	case 8:
		m.Count = []int{0, 1, maxTime - 1, maxTime}[draw.Intn(4)]
	case 9:
		x.group.Ops = draw.Intn(501)
	case 10:
		x.times[draw.Intn(6)] = []int{0, 1, maxTime - 1, maxTime}[draw.Intn(4)]
	case 11:
		base := api.Stamp{Time: 9999, Who: 6}
		x.tree = []api.Snap{{}, {Base: base}, {Nodes: nodesOf(x.tree.Ops), Base: base}}[draw.Intn(3)]
	}
}
