package sim

import (
	"fmt"
	"math/rand"
	"reflect"
	"slices"
	"strings"
	"testing"

	"samphire/api"
	"samphire/code"
	"samphire/group"
	"samphire/keys"
	"samphire/pad"
	"samphire/sha"
	"samphire/snap"
	"samphire/tree"
	"samphire/vault"
	"samphire/wire"
)

// What one who has all keys can seal, a member among others, is heard by way of the relay.

// keyOf is the key of an epoch.
func keyOf(epoch int) string { return fresh(fresh("own", 1), epoch) }

// forged is a text, padded and sealed by a key, with a nonce of someone's and a number, for a purpose.
func forged(key string, who, count int, bound, text string) string {
	padded, _ := pad.Pad(text)
	nonce, _ := keys.Nonce(who, count)
	s, _ := vault.Real().Seal(key, nonce, bound, padded)
	return s
}

// content is what a snapshot tells, in layer 22's order.
type content struct {
	many       int
	chains     []string
	group      api.Group
	ahead, key string
	times      [6]int
	tree       api.Snap
}

// contentOf is what an honest one would tell that has what a client has.
func contentOf(x *Sim, who int) content {
	c := content{group: x.Group(who)}
	var chain string
	c.many, chain = x.Chain(who)
	c.chains = []string{chain}
	if len(c.group.Members) == 0 {
		c.group = group.New()
	}
	c.key = keyOf(c.group.Epoch)
	if c.group.Epoch > 1 {
		c.ahead = keyOf(c.group.Epoch - 1)
	}
	c.tree.Nodes = x.Nodes(who)
	c.tree.Base = api.Stamp{Time: 1 << 20, Who: 6}
	return c
}

func (c content) bytes() string {
	o := code.NewOut()
	o.Num(c.many)
	o.Byte(len(c.chains))
	for _, s := range c.chains {
		o.Text(s)
	}
	members, _ := group.Put(c.group)
	o.Text(members)
	o.Text(c.ahead)
	o.Text(c.key)
	for _, n := range c.times {
		o.Num(n)
	}
	nodes, _ := snap.Put(c.tree)
	o.Text(nodes)
	s, _ := o.Done()
	return s
}

// frame is a snapshot that tells it, for all that there may be.
func (c content) frame() string {
	blob := ""
	for who := 1; who <= 6; who++ {
		s, _ := keys.Wrap(fresh("own", who), who, c.group.Epoch, keyOf(c.group.Epoch))
		blob += s
	}
	keep, _ := keys.Keep(keyOf(c.group.Epoch))
	s, _ := wire.Put(api.Frame{Kind: api.FrameSnap, Seq: c.many, Epoch: c.group.Epoch, Blob: blob + forged(keep, 0, c.many, "keep", c.bytes())})
	return s
}

// A snapshot whose content has no key of its epoch is none, and what comes behind it finds all as it was.
func TestSnapshotWithoutAKey(t *testing.T) {
	nothing := asBytes(t, api.Frame{Kind: api.FrameGiven})
	for _, key := range []string{"", "short", strings.Repeat("k", 31), strings.Repeat("k", 33)} {
		for _, ahead := range []string{"", keyOf(1)} {
			x := simOf(t, 3, false)
			ok(t, x, add(2))
			flush(t, x, 1)
			c := contentOf(x, 1)
			c.group.Members[2].In = true
			c.ahead, c.key = ahead, key
			s := c.frame()
			for _, who := range []int{2, 3} {
				unchanged(t, short(key), x, func() {
					ok(t, x, twistText(who, s))
					does(t, x, api.ErrSeal, join(who))
					ok(t, x, twistText(who, nothing))
					does(t, x, api.ErrWait, fetch(who, 8), join(who))
					ok(t, x, start(who))
				})
			}
			// So it is for who has accepted something.
			ok(t, x, keep(1), join(2), rotate())
			flush(t, x, 1)
			c = contentOf(x, 1)
			c.ahead, c.key = ahead, key
			ok(t, x, twistText(2, c.frame()))
			unchanged(t, short(key), x, func() {
				does(t, x, api.ErrSeal, join(2))
				ok(t, x, start(2))
			})
			ok(t, x, fetch(2, 8))
			has(t, x, 2, 2)
		}
	}
}

// drawnForged is a frame, sealed as it should be, that tells anything.
func drawnForged(draw *rand.Rand, x *Sim, clients int) string {
	who := 1 + draw.Intn(clients)
	c := contentOf(x, who)
	if draw.Intn(2) == 0 {
		turnContent(draw, &c)
		c.many += draw.Intn(3)
		return c.frame()
	}
	var l []api.Item
	for k := range 1 + draw.Intn(3) {
		g := x.Group(who)
		epoch := max(1, g.Epoch-draw.Intn(3)/2+draw.Intn(9)/8)
		r := drawnRecord(draw, g, c)
		text, _ := wire.PutRecord(r)
		key, _ := keys.Send(keyOf(epoch), r.From)
		l = append(l, api.Item{Seq: c.many + 1 + k, Epoch: epoch, Blob: forged(key, r.From, r.Count, "record", text)})
	}
	s, _ := wire.Put(api.Frame{Kind: api.FrameGiven, Items: l})
	return s
}

// drawnRecord is the next one of someone's, who has what a content tells, or nearly so.
func drawnRecord(draw *rand.Rand, g api.Group, c content) api.Record {
	r := api.Record{Kind: 1 + draw.Intn(4), From: 1 + draw.Intn(6), Seq: c.many, Head: c.chains[0]}
	if r.Kind != api.RecOp && draw.Intn(4) > 0 {
		r.From = 1
	}
	r.Count = 1 + draw.Intn(12)/11
	if len(g.Members) == 6 {
		r.Count += g.Members[r.From-1].Count
	}
	if draw.Intn(8) == 0 {
		r.Seq, r.Head = draw.Intn(c.many+2), sha.Sum("another past")
	}
	if r.Kind == api.RecOp {
		at := api.Stamp{Time: []int{1 + draw.Intn(99), maxTime}[draw.Intn(9)/8], Who: 1 + draw.Intn(6)}
		r.Op = api.Op{Kind: api.OpCreate, At: at, Node: at, Name: fmt.Sprint("f", draw.Intn(9))}
		return r
	}
	if r.Kind != api.RecRotate {
		r.Who = 1 + draw.Intn(6)
	}
	for who := 1; who <= 6; who++ {
		if draw.Intn(5) == 0 {
			continue
		}
		key := []string{keyOf(g.Epoch + 1), keyOf(g.Epoch + 1), strings.Repeat("k", 32)}[draw.Intn(3)]
		s, _ := keys.Wrap(fresh("own", who), who, g.Epoch+1, key)
		r.Wraps = append(r.Wraps, api.Wrap{Who: who, Text: s})
	}
	return r
}

// turnContent lets some parts of a content be other ones.
func turnContent(draw *rand.Rand, c *content) {
	some := []string{"", "short", strings.Repeat("k", 32), keyOf(1), keyOf(2), keyOf(3)}
	for range draw.Intn(4) {
		m := &c.group.Members[draw.Intn(6)]
		switch draw.Intn(10) {
		case 0:
			c.key = some[draw.Intn(len(some))]
		case 1:
			c.ahead = some[draw.Intn(len(some))]
		case 2:
			c.ahead, c.key = "", ""
		case 3:
			c.chains = slices.Repeat([]string{sha.Sum("another past")}, draw.Intn(35))
		case 4:
			m.In = !m.In
		case 5:
			m.Count = []int{0, 3, maxTime - 1, maxTime}[draw.Intn(4)]
		case 6:
			c.group.Ops = []int{0, 499, 500}[draw.Intn(3)]
		case 7:
			c.group.Epoch = []int{1, 2, 3, maxTime - 1, maxTime}[draw.Intn(5)]
			c.key = keyOf(c.group.Epoch)
		case 8:
			c.times[draw.Intn(6)] = []int{0, 1, maxTime - 1, maxTime}[draw.Intn(4)]
		case 9:
			c.tree = drawnTree(draw)
			if draw.Intn(20) == 0 {
				c.many = maxTime - 2
			}
		}
	}
}

// drawnTree is a tree of which some is for good.
func drawnTree(draw *rand.Rand) api.Snap {
	x := tree.New()
	for k := range draw.Intn(90) {
		at := api.Stamp{Time: 1 + k, Who: 1 + draw.Intn(6)}
		x.Apply(api.Op{Kind: api.OpCreate, At: at, Node: at, Name: fmt.Sprint("g", k)})
	}
	x.Compact(api.Stamp{Time: 1 + draw.Intn(90), Who: 6})
	return api.Snap{Nodes: x.Fixed(), Ops: x.Ops(), Base: x.Base()}
}

// Whatever is sealed, and heard: no step panics, who is opened anew is as it was left, and nothing is taken back.
func TestDrawnForgedFrames(t *testing.T) {
	all := map[string]int{}
	for seed := range int64(150) {
		draw := rand.New(rand.NewSource(7200 + seed))
		clients := 1 + int(seed)%6
		x := grouped(t, clients, false)
		for n := range 25 {
			s := drawnStep(draw, clients)
			if draw.Intn(3) == 0 {
				ok(t, x, twistText(s.At, drawnForged(draw, x, clients)))
				s = []api.Step{join(s.At), fetch(s.At, 8)}[draw.Intn(2)]
				all[fmt.Sprint(x.Step(s))]++
				s = start(s.At)
			}
			was := tell(x).Clients[s.At+1]
			e := x.Step(s)
			is := tell(x).Clients[s.At+1]
			if is.Many < was.Many || was.Tampered && !is.Tampered {
				t.Fatalf("seed %d: step %d: %s: it is taken back", seed, n, short(s))
			}
			if s.Kind == api.StepStart && was.Runs && !reflect.DeepEqual(was, is) {
				t.Fatalf("seed %d: step %d: %d: opened anew as\n%s, it was\n%s", seed, n, e, short(is), short(was))
			}
		}
		x.Calm()
	}
	for e, least := range map[string]int{fmt.Sprint(api.OK): 100, fmt.Sprint(api.ErrSeal): 50, fmt.Sprint(api.ErrTampered): 100} {
		if all[e] < least {
			t.Error("too few:", all)
		}
	}
}
