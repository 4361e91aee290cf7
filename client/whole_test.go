package client

import (
	"fmt"
	"math/rand"
	"reflect"
	"slices"
	"strings"
	"sync"
	"testing"

	"samphire/api"
	"samphire/block"
	"samphire/group"
	"samphire/keys"
	"samphire/pad"
	"samphire/relay"
	"samphire/sha"
	"samphire/vault"
	"samphire/wire"
)

// Cl7.

// A client that Open did not give: nil, an empty one, a copy.
func TestNoClient(t *testing.T) {
	b := bookOf(t, vault.Ideal("seed"))
	b.create(1, 1, "a")
	c := b.admin()
	edit(t, c, "b")
	send(t, c)
	was := whole(c)
	copied := *c
	for k, x := range []*Client{nil, {}, new(Client), &copied} {
		tell := func(what string, e api.Errno, empty bool) {
			t.Helper()
			if e != api.ErrArg || !empty {
				t.Errorf("%d: %s: %d", k, what, e)
			}
		}
		o, e := x.Edit(api.Op{Kind: api.OpCreate, Name: "a"})
		tell("Edit", e, o == api.Op{})
		tell("Control", x.Control(api.RecRotate, 0), true)
		s, e := x.Send()
		tell("Send", e, s == "")
		s, e = x.Fetch(9)
		tell("Fetch", e, s == "")
		s, e = x.Join()
		tell("Join", e, s == "")
		s, e = x.Keep()
		tell("Keep", e, s == "")
		for _, f := range []string{"junk", given(t), b.snap(), asBytes(t, api.Frame{Kind: api.FrameError, Err: api.ErrQuota})} {
			tell("Hear", x.Hear(f), true)
		}
		r, ok := x.Next()
		n, chain := x.Chain()
		if ok || !reflect.DeepEqual(r, api.Record{}) || x.Waits() != 0 || x.Nodes() != nil || !reflect.DeepEqual(x.Group(), api.Group{}) || n != 0 || chain != "" || x.Epochs() != nil || x.Joined() || x.Tampered() {
			t.Errorf("%d: it tells something", k)
		}
	}
	if whole(c) != was {
		t.Error("a copy has changed it")
	}
}

// What is answered is not shared with what a client keeps.
func TestNothingIsShared(t *testing.T) {
	b := long(t, vault.Real())
	c := b.admin()
	control(t, c, api.RecAdd, 4)
	send(t, c)
	was := whole(c)
	for range 2 {
		nodes, g, epochs := c.Nodes(), c.Group(), c.Epochs()
		r, _ := c.Next()
		if len(nodes) == 0 || len(g.Members) != 6 || len(epochs) != 2 || len(r.Wraps) != 4 {
			t.Fatal("there is nothing to be changed")
		}
		clear(nodes)
		clear(g.Members)
		clear(epochs)
		clear(r.Wraps)
		_ = append(nodes[:1], api.Node{Name: "x"})
		_ = append(g.Members[:1], api.Member{Who: 9})
		_ = append(epochs[:1], 9)
		_ = append(r.Wraps[:1], api.Wrap{Who: 9})
		if whole(c) != was {
			t.Fatal("it has changed")
		}
	}
}

// What is handed in is not changed, and lists of it are not kept.
func TestWhatIsHandedInStands(t *testing.T) {
	own := append(allOwn(), "behind the end")[:6]
	d := deviceOf(t, blocks)
	c, e := Open(d, vault.Real(), 1, own)
	if e != api.OK {
		t.Fatal(e)
	}
	if !slices.Equal(own, allOwn()) || own[:7][6] != "behind the end" {
		t.Error("the own keys have changed")
	}
	clear(own)
	b := bookOf(t, vault.Real())
	control(t, c, api.RecAdd, 2)
	b.sent(c)
	b.at(c, 1)
	f, _ := c.Keep()
	if f != strings.Replace(b.snap(), "\x08", "\x05", 1) {
		t.Error("it has kept the list")
	}
}

// Two clients of the same own, who and draws that were told the same answer the same.
func TestTheSameAnswers(t *testing.T) {
	run := func() []any {
		s := vault.Ideal("seed")
		b := bookOf(t, s)
		var l []any
		for _, a := range acts(t, b) {
			c := a.made(t, s)
			l = append(l, a.call(c), whole(c), callAll(c), c.Hear(given(t)), callAll(c), whole(c), c.device.Writes())
		}
		return append(l, s.Many(), s.Drawn(100))
	}
	if x, y := run(), run(); !reflect.DeepEqual(x, y) {
		t.Error("they answer otherwise")
	}
}

// Clients on devices and with sealers of their own do not touch each other.
func TestManyAtOnce(t *testing.T) {
	var all sync.WaitGroup
	out := make([][]any, 8)
	for k := range out {
		all.Go(func() {
			b := bookOf(t, vault.Ideal("seed"))
			c := b.admin()
			for n := range 20 {
				c.Edit(api.Op{Kind: api.OpCreate, Name: fmt.Sprint("n", n)})
				b.sent(c)
			}
			out[k] = []any{whole(c), callAll(c)}
		})
	}
	all.Wait()
	for _, l := range out {
		if !reflect.DeepEqual(l, out[0]) {
			t.Error("they differ")
		}
	}
}

// Whatever is heard, a call ends, and none panics.
func TestDrawnFramesEnd(t *testing.T) {
	draw := rand.New(rand.NewSource(5))
	b := long(t, vault.Real())
	var frames []string
	for n := range b.items {
		frames = append(frames, given(t, b.items[n:min(n+draw.Intn(5), b.many())]...))
	}
	frames = append(frames, b.snap(), b.until(30).snap(), given(t))
	for range 400 {
		who := 1 + draw.Intn(3)
		c := client(t, b.seal, who)
		if draw.Intn(2) == 0 {
			c = b.until(3 + draw.Intn(b.many()-3)).member(who)
		}
		for range 1 + draw.Intn(6) {
			s := []byte(frames[draw.Intn(len(frames))])
			if draw.Intn(3) > 0 {
				s[draw.Intn(len(s))] ^= byte(1 << draw.Intn(8))
			}
			if draw.Intn(6) == 0 {
				s = s[:draw.Intn(len(s)+1)]
			}
			c.Hear(string(s))
			callAll(c)
		}
		n, _ := c.Chain()
		if again := open(t, c.device, b.seal, who); whole(again) != whole(c) || n > b.many()+1 {
			t.Fatal("it is opened anew as another one")
		}
	}
}

// A device, or a sealer, that is none any more: nothing panics.
func TestWhatIsNoneAnyMore(t *testing.T) {
	b := long(t, vault.Ideal("seed"))
	for k := range 3 {
		s := vault.Ideal("seed")
		c := client(t, s, 1)
		edit(t, c, "a")
		if k > 0 {
			*c.device = block.Device{}
		}
		if k < 2 {
			*s = vault.Sealer{}
		}
		callAll(c)
		for _, f := range []string{given(t), given(t, b.items[:3]...), b.snap()} {
			c.Hear(f)
			callAll(c)
		}
	}
}

// Cl8, and the promises of the whole, as far as clients keep them: clients, a relay, and draws.

// town is clients that edit at once, through a relay, and what was seen of them, by hand.
type town struct {
	t       *testing.T
	draw    *rand.Rand
	seal    *vault.Sealer
	relay   *relay.Relay
	devices map[int]*block.Device
	clients map[int]*Client
	// What each accepted, one behind the other, and what that came to; of those that a snapshot stood for, as the admin had
	// accepted them.
	accepted map[int][]api.Item
	pages    map[int][]page
	// What was sealed with each number under a key, and what was issued.
	used    map[string]string
	blobs   map[string]bool
	members int
	// The answer that was heard last, of each: a relay that is not honest gives it again.
	last map[int]string
	// How often something happened.
	seen map[string]int
}

func townOf(t *testing.T, seed int64, ideal bool, members int) *town {
	x := &town{t: t, draw: rand.New(rand.NewSource(seed)), members: members, devices: map[int]*block.Device{}, clients: map[int]*Client{},
		accepted: map[int][]api.Item{}, pages: map[int][]page{}, used: map[string]string{}, blobs: map[string]bool{}, last: map[int]string{}, seen: map[string]int{}}
	x.relay, _ = relay.New(0, 1<<20)
	x.seal = vault.Real()
	if ideal {
		x.seal = vault.Ideal("sim")
	}
	for who := 1; who <= members; who++ {
		x.devices[who] = deviceOf(t, blocks)
		x.clients[who] = open(t, x.devices[who], x.seal, who)
		x.pages[who] = []page{{chain: sha.Sum("samphire"), group: group.New()}}
	}
	return x
}

// unique holds that no number is used for two texts under one key.
func (x *town) unique(under, s string) {
	x.t.Helper()
	if was, ok := x.used[under]; ok && was != s {
		x.t.Fatalf("%q: used for two texts", under)
	}
	x.used[under] = s
}

// sends tells what a client sends, and looks into it.
func (x *town) sends(who int) (string, api.Errno) {
	x.t.Helper()
	c := x.clients[who]
	s, e := c.Send()
	if e != api.OK {
		return s, e
	}
	f, _ := wire.Take(s)
	r, ok := c.Next()
	k, _ := keys.Send(key(f.Epoch), who)
	nonce, _ := keys.Nonce(who, r.Count)
	p, bad := x.seal.Open(k, nonce, "record", f.Blob)
	if !ok || bad != api.OK {
		x.t.Fatalf("what %d sends can't be opened: %d", who, bad)
	}
	x.unique(fmt.Sprint("record ", f.Epoch, who, r.Count), p)
	x.unique(fmt.Sprint("blob ", f.Epoch, who, r.Count), f.Blob)
	x.blobs[f.Blob] = true
	return s, api.OK
}

func (x *town) keeps() (string, api.Errno) {
	x.t.Helper()
	s, e := x.clients[1].Keep()
	if e != api.OK {
		return s, e
	}
	f, _ := wire.Take(s)
	k, _ := keys.Keep(key(f.Epoch))
	nonce, _ := keys.Nonce(0, f.Seq)
	p, bad := x.seal.Open(k, nonce, "keep", f.Blob[6*48:])
	if bad != api.OK {
		x.t.Fatal("a snapshot that can't be opened")
	}
	x.unique(fmt.Sprint("keep ", f.Epoch, " ", f.Seq), p)
	return s, api.OK
}

// hear lets a client hear something, and writes down what it accepted by that.
func (x *town) hear(who int, s string) api.Errno {
	x.t.Helper()
	c := x.clients[who]
	n, chain := c.Chain()
	tampered := c.Tampered()
	e := c.Hear(s)
	is, now := c.Chain()
	f, _ := wire.Take(s)
	switch {
	case is < n, is == n && now != chain, tampered && (is != n || !c.Tampered()):
		x.t.Fatalf("%d: %d records were accepted, %d are", who, n, is)
	case is > n && f.Kind == api.FrameGiven:
		for _, i := range f.Items[:is-n] {
			x.accepted[who] = append(x.accepted[who], i)
			x.pages[who] = append(x.pages[who], x.read(x.pages[who][i.Seq-1], i))
			x.seen["accepted"]++
		}
	case is > n && f.Kind == api.FrameSnap:
		x.accepted[who] = slices.Clone(x.accepted[1][:is])
		x.pages[who] = slices.Clone(x.pages[1][:is+1])
		x.seen["snapshots heard"]++
	case is > n:
		x.t.Fatalf("%d: accepted by %s", who, short(f))
	}
	if n := len(x.accepted[who]); n != is {
		x.t.Fatalf("%d: %d records, not %d", who, is, n)
	}
	return e
}

// read is what comes of an item that was accepted: as one reads it who has all keys.
func (x *town) read(p page, i api.Item) page {
	x.t.Helper()
	p.chain = sha.Sum(p.chain + numbers(i.Seq, i.Epoch) + i.Blob)
	if i.Epoch < p.group.Epoch-1 {
		return p
	}
	r, ok := x.opened(p.group, i)
	if !ok || !x.blobs[i.Blob] {
		x.t.Fatalf("accepted, but nobody sent it: %s", short(i))
	}
	g, counts, e := group.Judge(p.group, i.Epoch, r)
	if e != api.OK {
		x.t.Fatal(e)
	}
	p.group = g
	if counts && r.Kind == api.RecOp {
		p.ops = append(slices.Clone(p.ops), r.Op)
	}
	return p
}

func (x *town) opened(g api.Group, i api.Item) (api.Record, bool) {
	for _, m := range g.Members {
		k, _ := keys.Send(key(i.Epoch), m.Who)
		nonce, _ := keys.Nonce(m.Who, m.Count+1)
		if p, e := x.seal.Open(k, nonce, "record", i.Blob); e == api.OK {
			s, _ := pad.Unpad(p)
			r, e := wire.TakeRecord(s)
			return r, e == api.OK
		}
	}
	return api.Record{}, false
}

// look holds what a client shows, if it is not tampered, against what it accepted.
func (x *town) look(who int) {
	x.t.Helper()
	c := x.clients[who]
	if c.Tampered() || len(x.accepted[who]) == 0 {
		return
	}
	p := x.pages[who][len(x.accepted[who])]
	n, chain := c.Chain()
	if n != len(x.accepted[who]) || chain != p.chain || !reflect.DeepEqual(c.Group(), p.group) || !slices.Equal(c.Nodes(), nodesOf(p.ops)) {
		x.t.Fatalf("%d shows something else than what it accepted:\n%s\n%s", who, short(c.Nodes()), short(nodesOf(p.ops)))
	}
	in := group.In(p.group, who)
	if c.Joined() != in || in != (len(c.Epochs()) > 0) || !in && c.Waits() > 0 {
		x.t.Fatalf("%d: %s", who, short(shapeOf(c)))
	}
	for _, epoch := range c.Epochs() {
		if epoch > p.group.Epoch || epoch < p.group.Epoch-1 {
			x.t.Fatalf("%d has the key of %d", who, epoch)
		}
	}
}

// crash lets the power go off within the next writes, and open lets a client be opened anew.
func (x *town) open(who int) {
	x.t.Helper()
	x.devices[who].On()
	x.clients[who] = open(x.t, x.devices[who], x.seal, who)
	x.seen["opened anew"]++
	// What it accepted is as ahead of the call, or as behind it: what was not heard to its end it has not.
	if n, _ := x.clients[who].Chain(); n != len(x.accepted[who]) {
		x.t.Fatalf("%d accepted %d, and has %d", who, len(x.accepted[who]), n)
	}
}

// edit lets a client do something upon the nodes that it shows.
func (x *town) edit(who int) api.Errno {
	x.t.Helper()
	c := x.clients[who]
	l := c.Nodes()
	some := func() api.Stamp {
		if len(l) == 0 || x.draw.Intn(5) == 0 {
			return api.Stamp{Who: x.draw.Intn(2)}
		}
		return l[x.draw.Intn(len(l))].Id
	}
	o := api.Op{Kind: 1 + x.draw.Intn(5), Node: some()}
	switch o.Kind {
	case api.OpCreate, api.OpRename:
		o.Name = fmt.Sprint("n", x.draw.Intn(9))
	case api.OpSet:
		o.Value = fmt.Sprint(x.draw.Intn(9))
	}
	if o.Kind == api.OpCreate || o.Kind == api.OpMove {
		o.Parent = some()
	}
	o, e := c.Edit(o)
	if e == api.OK {
		x.unique(fmt.Sprint("stamp ", o.At), fmt.Sprint(o))
	}
	return e
}

// ask sends what a client would send, and lets it hear the answer: turned, if the relay is not honest.
func (x *town) ask(who int, call func() (string, api.Errno), honest bool) api.Errno {
	x.t.Helper()
	s, e := call()
	if e != api.OK {
		return e
	}
	a := x.relay.Hear(s)
	if !honest && x.draw.Intn(12) == 0 {
		a = x.turned(who, a)
	}
	if a == "" {
		return api.OK
	}
	x.last[who] = a
	return x.hear(who, a)
}

// turned is an answer of a relay that is not honest; "": none.
func (x *town) turned(who int, s string) string {
	f, _ := wire.Take(s)
	l := f.Items
	x.seen["turned"]++
	switch x.draw.Intn(8) {
	case 0:
		return ""
	case 1:
		return x.last[1+x.draw.Intn(x.members)]
	case 2:
		if len(l) > 0 {
			i := &l[len(l)-1]
			i.Blob = i.Blob[:len(i.Blob)-1] + string([]byte{i.Blob[len(i.Blob)-1] ^ 1})
		} else if len(f.Blob) > 0 {
			f.Blob = f.Blob[:len(f.Blob)-1] + string([]byte{f.Blob[len(f.Blob)-1] ^ 1})
		}
	case 3:
		for k := range len(l) / 2 {
			o := len(l) - 1 - k
			l[k].Blob, l[k].Epoch, l[o].Blob, l[o].Epoch = l[o].Blob, l[o].Epoch, l[k].Blob, l[k].Epoch
		}
	case 4:
		if len(l) > 0 {
			l = l[1:]
			for k := range l {
				l[k].Seq--
			}
		}
	case 5:
		if len(l) > 0 {
			i := l[len(l)-1]
			i.Seq++
			l = append(l, i)
		}
	case 6:
		for k := range l {
			l[k].Epoch++
		}
	case 7:
		return x.last[who]
	}
	f.Items = l
	s, e := wire.Put(f)
	if e != api.OK {
		return ""
	}
	return s
}

// step does something that is drawn.
func (x *town) step(honest bool) {
	x.t.Helper()
	who := 1 + x.draw.Intn(x.members)
	c := x.clients[who]
	if x.draw.Intn(8) == 0 {
		x.devices[who].Fuse(x.draw.Intn(60))
	}
	fetch := func() (string, api.Errno) { return c.Fetch(1 + x.draw.Intn(9)) }
	var e api.Errno
	switch n := x.draw.Intn(40); {
	case n < 10:
		e = x.edit(who)
	case n < 20:
		e = x.ask(who, func() (string, api.Errno) { return x.sends(who) }, honest)
	case n < 34:
		e = x.ask(who, fetch, honest)
		if e == api.ErrGone || e == api.ErrWait {
			x.seen[fmt.Sprint("answer ", int(e))]++
			e = x.ask(who, c.Join, honest)
		}
	case n < 35:
		e = x.clients[1].Control(api.RecAdd, 2+x.draw.Intn(x.members-1))
		who = 1
	case n < 36:
		other := 2 + x.draw.Intn(x.members-1)
		if x.draw.Intn(3) == 0 {
			e = x.clients[1].Control(api.RecRemove, other)
			who = 1
		}
	case n < 37:
		e = x.clients[1].Control(api.RecRotate, 0)
		who = 1
	default:
		e = x.ask(1, x.keeps, honest)
		who = 1
		if e == api.OK {
			x.seen["snapshots kept"]++
		}
	}
	x.seen[fmt.Sprint("answer ", int(e))]++
	if x.devices[who].Off() {
		x.open(who)
	}
	if honest && x.clients[who].Tampered() {
		x.t.Fatalf("%d is tampered by an honest relay", who)
	}
	x.look(who)
}

// calm lets all members send what waits, and fetch all.
func (x *town) calm() {
	x.t.Helper()
	fetch := func(who int) {
		c := x.clients[who]
		for {
			n, _ := c.Chain()
			e := x.ask(who, func() (string, api.Errno) { return c.Fetch(8) }, true)
			if e == api.ErrGone {
				e = x.ask(who, c.Join, true)
			}
			if m, _ := c.Chain(); m == n || e != api.OK {
				return
			}
		}
	}
	for round := range 80 {
		if round == 40 {
			// For who was removed, and added again, behind a snapshot: it hears of that by another one. By now nothing waits
			// of all others.
			x.ask(1, x.keeps, true)
		}
		for who := 1; who <= x.members; who++ {
			x.devices[who].On()
			if x.clients[who].Joined() {
				fetch(who)
				x.ask(who, func() (string, api.Errno) { return x.sends(who) }, true)
				fetch(who)
			}
		}
	}
	g := x.clients[1].Group()
	for who := 1; who <= x.members; who++ {
		c := x.clients[who]
		x.look(who)
		if !c.Joined() || !group.In(g, who) {
			continue
		}
		x.seen["met"]++
		if n, _ := c.Chain(); c.Tampered() || c.Waits() > 0 || n != x.relay.Last() {
			x.t.Errorf("%d: %d wait, %d of %d, %t", who, c.Waits(), n, x.relay.Last(), c.Tampered())
		}
		if !slices.Equal(c.Nodes(), x.clients[1].Nodes()) {
			x.t.Errorf("%d shows another tree", who)
		}
	}
}

func TestDrawnTowns(t *testing.T) {
	all := map[string]int{}
	for seed := range int64(16) {
		x := townOf(t, seed, seed%2 == 0, 2+int(seed%5))
		for range 500 {
			x.step(true)
		}
		x.calm()
		for what, n := range x.seen {
			all[what] += n
		}
	}
	for _, what := range []string{"accepted", "snapshots heard", "snapshots kept", "opened anew", "met", "answer 3", "answer 70", "answer 170", "answer 210", "answer 221"} {
		if all[what] == 0 {
			t.Errorf("it never came: %s", what)
		}
	}
	t.Log(all)
}

// A relay that turns what it answers: who is not tampered shows what it accepted, which members sent, in one chain.
func TestDrawnTownsWithATurningRelay(t *testing.T) {
	all := map[string]int{}
	for seed := range int64(40) {
		x := townOf(t, 100+seed, seed%2 == 0, 2+int(seed%5))
		for range 250 {
			x.step(false)
		}
		for who, c := range x.clients {
			x.look(who)
			if c.Tampered() {
				all["tampered"]++
			} else {
				all["not tampered"]++
			}
		}
		for what, n := range x.seen {
			all[what] += n
		}
	}
	for _, what := range []string{"accepted", "turned", "tampered", "not tampered", "answer 190", "answer 220"} {
		if all[what] == 0 {
			t.Errorf("it never came: %s", what)
		}
	}
	t.Log(all)
}

// Where much is done, things come to be for good, by each client at another time: all show the same tree yet.
func TestDrawnTownsThatDoMuch(t *testing.T) {
	turned := 0
	for seed := range int64(6) {
		members := 2 + int(seed%3)
		x := townOf(t, 200+seed, seed%2 == 0, members)
		for who := 2; who <= members; who++ {
			control(t, x.clients[1], api.RecAdd, who)
		}
		x.calm()
		for who := 2; who <= members; who++ {
			x.ask(who, x.clients[who].Join, true)
		}
		for range 1200 {
			who := 1 + x.draw.Intn(members)
			c := x.clients[who]
			switch n := x.draw.Intn(60); {
			case n < 25:
				x.edit(who)
			case n < 45:
				x.ask(who, func() (string, api.Errno) { return x.sends(who) }, true)
			case n < 58:
				if e := x.ask(who, func() (string, api.Errno) { return c.Fetch(1 + x.draw.Intn(32)) }, true); e == api.ErrGone {
					x.ask(who, c.Join, true)
				}
			case n < 59 && x.draw.Intn(8) == 0:
				x.clients[1].Control(api.RecRotate, 0)
			case n < 60 && x.draw.Intn(4) == 0:
				x.ask(1, x.keeps, true)
			}
			x.look(who)
		}
		x.calm()
		for who := range members {
			if base := x.clients[who+1].has.tree.Base(); base != (api.Stamp{}) {
				turned++
			}
		}
		t.Log(x.clients[1].Group().Ops, x.seen)
	}
	if turned < 6 {
		t.Errorf("nothing came to be for good: %d", turned)
	}
}
