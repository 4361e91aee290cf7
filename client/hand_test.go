package client

import (
	"fmt"
	"math/rand"
	"reflect"
	"slices"
	"strings"
	"testing"

	"samphire/api"
	"samphire/block"
	"samphire/code"
	"samphire/group"
	"samphire/keys"
	"samphire/pad"
	"samphire/sha"
	"samphire/snap"
	"samphire/store"
	"samphire/tree"
	"samphire/vault"
	"samphire/wire"
)

// What a group is, by hand: all its keys, and the records that were taken, sealed and chained without a client.

const (
	maxTime  = 1<<40 - 1
	mostWait = 32
	blocks   = 1100
)

// short is a thing as a test tells it: some are very long.
func short(x any) string { return fmt.Sprintf("%.400s", fmt.Sprintf("%+v", x)) }

// text is a text of n bytes, the same one in each run.
func text(n int) string {
	b := make([]byte, n)
	rand.New(rand.NewSource(int64(n))).Read(b)
	return string(b)
}

// fresh0 is layer 15's Fresh.
func fresh0(seed string, n int) string {
	s, _ := keys.Fresh(seed, n)
	return s
}

// allOwn are the own keys of all that there may be, and justOwn what one of them knows of these.
func allOwn() []string {
	var l []string
	for k := range 6 {
		l = append(l, fresh0("own", k+1))
	}
	return l
}

func justOwn(who int) []string {
	if who == 1 {
		return allOwn()
	}
	l := make([]string, 6)
	l[who-1] = fresh0("own", who)
	return l
}

// book is a group by hand.
type book struct {
	t    *testing.T
	seal *vault.Sealer
	// Of each number, from 0 on: what was there behind that record.
	pages []page
	items []api.Item
}

type page struct {
	chain string
	group api.Group
	// The operations that counted.
	ops []api.Op
}

func bookOf(t *testing.T, s *vault.Sealer) *book {
	return &book{t: t, seal: s, pages: []page{{chain: sha.Sum("samphire"), group: group.New()}}}
}

// until is another book, of the first records of this one.
func (b *book) until(many int) *book {
	return &book{b.t, b.seal, slices.Clone(b.pages[:many+1]), slices.Clone(b.items[:many])}
}

func (b *book) copied() *book { return b.until(b.many()) }

func (b *book) now() page { return b.pages[len(b.pages)-1] }

func (b *book) many() int { return len(b.items) }

func (b *book) epoch() int { return b.now().group.Epoch }

// key is the key of an epoch.
func key(epoch int) string { return fresh0(allOwn()[0], epoch) }

// numbers are layer 9's bytes of some.
func numbers(l ...int) string {
	s := ""
	for _, n := range l {
		for k := 5; k >= 0; k-- {
			s += string([]byte{byte(n >> (8 * k))})
		}
	}
	return s
}

// sealedBy is a text, padded, and sealed by someone with a number.
func (b *book) sealedBy(epoch, who, count int, s string) string {
	b.t.Helper()
	k, _ := keys.Send(key(epoch), who)
	p, e := pad.Pad(s)
	if e != api.OK {
		b.t.Fatal(e)
	}
	return b.sealedSo(k, string([]byte{byte(who)})+"\x00\x00\x00\x00\x00"+numbers(count), "record", p)
}

func (b *book) sealedSo(key, nonce, bound, s string) string {
	b.t.Helper()
	out, e := b.seal.Seal(key, nonce, bound, s)
	if e != api.OK {
		b.t.Fatal(e)
	}
	return out
}

// bytesOf are a record's bytes.
func (b *book) bytesOf(r api.Record) string {
	b.t.Helper()
	s, e := wire.PutRecord(r)
	if e != api.OK {
		b.t.Fatalf("PutRecord %s: %d", short(r), e)
	}
	return s
}

// blob is a record, sealed in an epoch.
func (b *book) blob(epoch int, r api.Record) string {
	b.t.Helper()
	return b.sealedBy(epoch, r.From, r.Count, b.bytesOf(r))
}

// made is a record with all that it has as of now: the next one of its sender's.
func (b *book) made(r api.Record) api.Record {
	r.Count = b.now().group.Members[r.From-1].Count + 1
	r.Seq, r.Head = b.many(), b.now().chain
	if r.Kind != api.RecOp {
		r.Wraps = b.wraps(r)
	}
	return r
}

// wraps are those of a record of the admin's, by hand; none, if it would not count.
func (b *book) wraps(r api.Record) []api.Wrap {
	g := b.now().group
	in := map[int]bool{}
	for _, m := range g.Members {
		in[m.Who] = m.In
	}
	if r.From != 1 || r.Kind == api.RecAdd && in[r.Who] || r.Kind == api.RecRemove && (!in[r.Who] || r.Who == 1) {
		return nil
	}
	if r.Kind != api.RecRotate {
		in[r.Who] = r.Kind == api.RecAdd
	}
	var l []api.Wrap
	for who := 1; who <= 6; who++ {
		if in[who] {
			l = append(l, api.Wrap{Who: who, Text: wrap(who, g.Epoch+1)})
		}
	}
	return l
}

// wrap is an epoch's key for someone.
func wrap(who, epoch int) string {
	s, _ := keys.Wrap(allOwn()[who-1], who, epoch, key(epoch))
	return s
}

// item is what would be the next one.
func (b *book) item(epoch int, blob string) api.Item {
	return api.Item{Seq: b.many() + 1, Epoch: epoch, Blob: blob}
}

// take lets a record be taken, as it is, and answers its item.
func (b *book) take(epoch int, r api.Record) api.Item {
	b.t.Helper()
	i := b.item(epoch, b.blob(epoch, r))
	b.takeItem(i, &r)
	return i
}

// takeItem lets an item be taken, that is a record, or nothing that could be read.
func (b *book) takeItem(i api.Item, r *api.Record) {
	b.t.Helper()
	p := b.now()
	p.chain = sha.Sum(p.chain + numbers(i.Seq, i.Epoch) + i.Blob)
	if r != nil && i.Epoch >= p.group.Epoch-1 {
		g, counts, e := group.Judge(p.group, i.Epoch, *r)
		if e != api.OK {
			b.t.Fatalf("Judge %s: %d", short(*r), e)
		}
		p.group = g
		if counts && r.Kind == api.RecOp {
			p.ops = append(slices.Clone(p.ops), r.Op)
		}
	}
	b.pages = append(b.pages, p)
	b.items = append(b.items, i)
}

// do lets a record be taken that is made as of now, in the group's epoch.
func (b *book) do(r api.Record) api.Item {
	b.t.Helper()
	return b.take(b.epoch(), b.made(r))
}

func create(who, time int, name string) api.Op {
	at := api.Stamp{Time: time, Who: who}
	return api.Op{Kind: api.OpCreate, At: at, Node: at, Name: name}
}

// create lets there be a node, and control a record of the admin's.
func (b *book) create(who, time int, name string) api.Item {
	b.t.Helper()
	return b.do(api.Record{Kind: api.RecOp, From: who, Op: create(who, time, name)})
}

func (b *book) control(kind, who int) api.Item {
	b.t.Helper()
	return b.do(api.Record{Kind: kind, From: 1, Who: who})
}

// asBytes are a frame's bytes.
func asBytes(t *testing.T, f api.Frame) string {
	t.Helper()
	s, e := wire.Put(f)
	if e != api.OK {
		t.Fatalf("wire.Put %s: %d", short(f), e)
	}
	return s
}

func given(t *testing.T, l ...api.Item) string {
	t.Helper()
	return asBytes(t, api.Frame{Kind: api.FrameGiven, Items: l})
}

// content is what a snapshot tells, part by part.
type content struct {
	many       int
	chains     []string
	group      api.Group
	ahead, key string
	times      [6]int
	tree       api.Snap
}

// content is what a snapshot of so many records tells, of a tree of which nothing is for good.
func (b *book) content(many int) content {
	p := b.pages[many]
	x := content{many: many, group: p.group, key: key(p.group.Epoch)}
	for n := max(0, many-31); n <= many; n++ {
		x.chains = append(x.chains, b.pages[n].chain)
	}
	if p.group.Epoch > 1 {
		x.ahead = key(p.group.Epoch - 1)
	}
	for _, o := range p.ops {
		x.times[o.At.Who-1] = max(x.times[o.At.Who-1], o.At.Time)
	}
	x.tree.Ops = slices.SortedFunc(slices.Values(p.ops), func(a, b api.Op) int {
		return (a.At.Time-b.At.Time)*10 + a.At.Who - b.At.Who
	})
	return x
}

func (b *book) contentBytes(x content) string {
	b.t.Helper()
	members, _ := group.Put(x.group)
	nodes, e := snap.Put(x.tree)
	if e != api.OK {
		b.t.Fatal(e)
	}
	o := code.NewOut()
	o.Num(x.many)
	o.Byte(len(x.chains))
	for _, c := range x.chains {
		o.Text(c)
	}
	o.Text(members)
	o.Text(x.ahead)
	o.Text(x.key)
	for _, n := range x.times {
		o.Num(n)
	}
	o.Text(nodes)
	s, e := o.Done()
	if e != api.OK {
		b.t.Fatal(e)
	}
	return s
}

// snapBlob is what a snapshot of a text is, sealed as of an epoch and a number, with an epoch's key for those of a group.
func (b *book) snapBlob(epoch, seq int, g api.Group, s string) string {
	b.t.Helper()
	out := ""
	for _, m := range g.Members {
		if m.In {
			out += wrap(m.Who, epoch)
		} else {
			out += strings.Repeat("\x00", 48)
		}
	}
	k, _ := keys.Keep(key(epoch))
	p, e := pad.Pad(s)
	if e != api.OK {
		b.t.Fatal(e)
	}
	return out + b.sealedSo(k, "\x00\x00\x00\x00\x00\x00"+numbers(seq), "keep", p)
}

// snapOf is the frame of a snapshot that tells this.
func (b *book) snapOf(x content) string {
	b.t.Helper()
	return asBytes(b.t, api.Frame{Kind: api.FrameSnap, Seq: x.many, Epoch: x.group.Epoch, Blob: b.snapBlob(x.group.Epoch, x.many, x.group, b.contentBytes(x))})
}

// snap is the frame of a snapshot of all that was taken.
func (b *book) snap() string {
	b.t.Helper()
	return b.snapOf(b.content(b.many()))
}

// nodesOf are the nodes of operations, whatever their order.
func nodesOf(l []api.Op) []api.Node {
	x := tree.New()
	for _, o := range l {
		x.Apply(o)
	}
	return x.Nodes()
}

// Clients, and what they tell.

func deviceOf(t *testing.T, n int) *block.Device {
	t.Helper()
	d, e := block.New(n)
	if e != api.OK {
		t.Fatal(e)
	}
	return d
}

func open(t *testing.T, d *block.Device, s *vault.Sealer, who int) *Client {
	t.Helper()
	c, e := Open(d, s, who, justOwn(who))
	if c == nil || e != api.OK {
		t.Fatalf("Open of %d: %d", who, e)
	}
	return c
}

// client is a new one.
func client(t *testing.T, s *vault.Sealer, who int) *Client {
	t.Helper()
	return open(t, deviceOf(t, blocks), s, who)
}

// member is a client that joined by a snapshot.
func (b *book) member(who int) *Client {
	b.t.Helper()
	c := client(b.t, b.seal, who)
	hears(b.t, c, b.snap(), api.OK)
	if !c.Joined() {
		b.t.Fatal("it has not joined")
	}
	return c
}

// admin is a client of the admin's, that heard all so far.
func (b *book) admin() *Client {
	b.t.Helper()
	c := client(b.t, b.seal, 1)
	b.all(c)
	return c
}

// all lets a client hear all that it did not yet.
func (b *book) all(c *Client) {
	b.t.Helper()
	for {
		n, _ := c.Chain()
		if n == b.many() {
			return
		}
		hears(b.t, c, given(b.t, b.items[n:min(n+32, b.many())]...), api.OK)
		if m, _ := c.Chain(); m == n {
			return
		}
	}
}

// hears holds what a client says of a frame.
func hears(t *testing.T, c *Client, s string, want api.Errno) {
	t.Helper()
	if e := c.Hear(s); e != want {
		f, _ := wire.Take(s)
		t.Errorf("Hear %s: %d, not %d", short(f), e, want)
	}
}

// at holds that a client has just what came of so many records.
func (b *book) at(c *Client, many int) {
	b.t.Helper()
	p := b.pages[many]
	if n, s := c.Chain(); n != many || s != p.chain {
		b.t.Errorf("Chain: %d %x, not %d %x", n, s, many, p.chain)
	}
	if g := c.Group(); !reflect.DeepEqual(g, p.group) {
		b.t.Errorf("Group: %v, not %v", g, p.group)
	}
	if l, want := c.Nodes(), nodesOf(p.ops); !slices.Equal(l, want) {
		b.t.Errorf("Nodes: %s, not %s", short(l), short(want))
	}
}

// shape is all that a client tells, but for what it sends.
type shape struct {
	Nodes            []api.Node
	Group            api.Group
	Many             int
	Chain            string
	Epochs           []int
	Joined, Tampered bool
	Waits            int
	Next             api.Record
	Sealed           bool
	Fetch, Join      string
	FetchE, JoinE    api.Errno
}

func shapeOf(c *Client) shape {
	s := shape{Nodes: c.Nodes(), Group: c.Group(), Epochs: c.Epochs(), Joined: c.Joined(), Tampered: c.Tampered(), Waits: c.Waits()}
	s.Many, s.Chain = c.Chain()
	s.Next, s.Sealed = c.Next()
	s.Fetch, s.FetchE = c.Fetch(9)
	s.Join, s.JoinE = c.Join()
	return s
}

func (s shape) is(x shape) bool { return reflect.DeepEqual(s, x) }

// twin is a device with the same blocks.
func twin(t *testing.T, d *block.Device) *block.Device {
	t.Helper()
	x := deviceOf(t, d.Size())
	for k := range d.Size() {
		s, e := d.Read(k)
		if e != api.OK {
			t.Fatal(e)
		}
		if e := x.Write(k, s); e != api.OK {
			t.Fatal(e)
		}
	}
	return x
}

// left is all that a client left on a device, as bytes: so what it does not tell yet is held against another one, too.
func left(t *testing.T, d *block.Device) string {
	t.Helper()
	s, e := store.Open(d)
	if e != api.OK {
		t.Fatal(e)
	}
	return s.Base()
}

// whole is all that a client has, told and not.
func whole(c *Client) string {
	s, _ := c.has.put()
	return fmt.Sprintf("%x %+v", s, shapeOf(c))
}

// refused holds that a call is refused so, gives nothing, and changes nothing, nor draws.
func refused(t *testing.T, c *Client, want api.Errno, call func() (any, api.Errno)) {
	t.Helper()
	was, writes := whole(c), c.device.Writes()
	many := c.sealer.Many()
	for range 2 {
		x, e := call()
		if e != want || x != nil && !reflect.ValueOf(x).IsZero() {
			t.Errorf("%s %d, not %d", short(x), e, want)
		}
	}
	if is := whole(c); is != was {
		t.Errorf("refused by %d: changed to\n%.2000s, it was\n%.2000s", want, is, was)
	}
	if c.device.Writes() != writes {
		t.Errorf("refused by %d: it wrote", want)
	}
	if c.sealer.Many() != many {
		t.Errorf("refused by %d: it sealed", want)
	}
}

// The calls, as refused takes them.

func edits(c *Client, o api.Op) func() (any, api.Errno) {
	return func() (any, api.Errno) { return c.Edit(o) }
}

func controls(c *Client, kind, who int) func() (any, api.Errno) {
	return func() (any, api.Errno) { return nil, c.Control(kind, who) }
}

func sends(c *Client) func() (any, api.Errno) {
	return func() (any, api.Errno) { return c.Send() }
}

func fetches(c *Client, most int) func() (any, api.Errno) {
	return func() (any, api.Errno) { return c.Fetch(most) }
}

func joins(c *Client) func() (any, api.Errno) {
	return func() (any, api.Errno) { return c.Join() }
}

func keeps(c *Client) func() (any, api.Errno) {
	return func() (any, api.Errno) { return c.Keep() }
}

func hearing(c *Client, s string) func() (any, api.Errno) {
	return func() (any, api.Errno) { return nil, c.Hear(s) }
}

// edit lets a node be created, and answers the operation.
func edit(t *testing.T, c *Client, name string) api.Op {
	t.Helper()
	o, e := c.Edit(api.Op{Kind: api.OpCreate, Name: name})
	if e != api.OK {
		t.Fatalf("Edit: %d", e)
	}
	return o
}

func control(t *testing.T, c *Client, kind, who int) {
	t.Helper()
	if e := c.Control(kind, who); e != api.OK {
		t.Fatalf("Control %d, %d: %d", kind, who, e)
	}
}

// send is the frame that a client sends.
func send(t *testing.T, c *Client) api.Frame {
	t.Helper()
	s, e := c.Send()
	f, bad := wire.Take(s)
	if e != api.OK || bad != api.OK {
		t.Fatalf("Send: %d %d", e, bad)
	}
	return f
}

// sent lets a book take what a client sends, and the client hear all.
func (b *book) sent(c *Client) api.Frame {
	b.t.Helper()
	f := send(b.t, c)
	b.takeFrame(c, f)
	b.all(c)
	return f
}

// takeFrame lets a book take what a client has sent.
func (b *book) takeFrame(c *Client, f api.Frame) {
	b.t.Helper()
	r, ok := c.Next()
	if !ok {
		b.t.Fatal("nothing was sealed")
	}
	b.takeItem(b.item(f.Epoch, f.Blob), &r)
}

func sum(s string) string { return sha.Sum(s) }
