package sim

import (
	"fmt"
	"math/rand"
	"reflect"
	"slices"
	"testing"

	"samphire/api"
	"samphire/block"
	"samphire/client"
	"samphire/keys"
	"samphire/relay"
	"samphire/vault"
	"samphire/wire"
)

const (
	maxQuota = 1 << 20
	maxSteps = 1 << 16
	maxTime  = 1<<40 - 1
)

// short is a thing as a test tells it: some are very long.
func short(x any) string { return fmt.Sprintf("%.600s", fmt.Sprintf("%+v", x)) }

func simOf(t *testing.T, clients int, ideal bool) *Sim {
	t.Helper()
	x, e := New(api.Config{Clients: clients, Ideal: ideal, Quota: maxQuota})
	if x == nil || e != api.OK {
		t.Fatalf("New of %d: %d", clients, e)
	}
	return x
}

// both runs a test with ideal seals, and with real ones.
func both(t *testing.T, test func(t *testing.T, ideal bool)) {
	t.Run("ideal", func(t *testing.T) { test(t, true) })
	t.Run("real", func(t *testing.T) { test(t, false) })
}

// The steps, as scripts have them.

func create(at, into int, name string) api.Step {
	return api.Step{Kind: api.StepEdit, At: at, Op: api.OpCreate, Into: into, Name: name}
}

func move(at, node, into int) api.Step {
	return api.Step{Kind: api.StepEdit, At: at, Op: api.OpMove, Node: node, Into: into}
}

func rename(at, node int, name string) api.Step {
	return api.Step{Kind: api.StepEdit, At: at, Op: api.OpRename, Node: node, Name: name}
}

func set(at, node int, value string) api.Step {
	return api.Step{Kind: api.StepEdit, At: at, Op: api.OpSet, Node: node, Value: value}
}

func trash(at, node int) api.Step {
	return api.Step{Kind: api.StepEdit, At: at, Op: api.OpTrash, Node: node}
}

func send(at int) api.Step     { return api.Step{Kind: api.StepSend, At: at} }
func fetch(at, n int) api.Step { return api.Step{Kind: api.StepFetch, At: at, N: n} }
func keep(at int) api.Step     { return api.Step{Kind: api.StepKeep, At: at} }
func join(at int) api.Step     { return api.Step{Kind: api.StepJoin, At: at} }
func add(who int) api.Step     { return api.Step{Kind: api.StepAdd, At: who} }
func remove(who int) api.Step  { return api.Step{Kind: api.StepRemove, At: who} }
func rotate() api.Step         { return api.Step{Kind: api.StepRotate} }
func fuse(at, n int) api.Step  { return api.Step{Kind: api.StepFuse, At: at, N: n} }
func start(at int) api.Step    { return api.Step{Kind: api.StepStart, At: at} }

func twist(at, n int) api.Step { return api.Step{Kind: api.StepTwist, At: at, N: n} }

func twistText(at int, s string) api.Step {
	return api.Step{Kind: api.StepTwist, At: at, N: 1, Text: s}
}

// does holds that steps are answered so.
func does(t *testing.T, x *Sim, want api.Errno, steps ...api.Step) {
	t.Helper()
	for _, s := range steps {
		if e := x.Step(s); e != want {
			t.Errorf("Step %s: %d, not %d", short(s), e, want)
		}
	}
}

// ok lets steps be done, none of which is refused.
func ok(t *testing.T, x *Sim, steps ...api.Step) {
	t.Helper()
	does(t, x, api.OK, steps...)
}

// flush lets a client send all that waits, and fetch all.
func flush(t *testing.T, x *Sim, at int) {
	t.Helper()
	ok(t, x, fetch(at, 32))
	for range 40 {
		if t.Failed() {
			t.FailNow()
		}
		if x.Waits(at) == 0 {
			return
		}
		ok(t, x, send(at), fetch(at, 32))
	}
	t.Fatalf("%d has not sent all", at)
}

// group lets all clients be members, that have all.
func grouped(t *testing.T, clients int, ideal bool) *Sim {
	t.Helper()
	x := simOf(t, clients, ideal)
	for who := 2; who <= clients; who++ {
		ok(t, x, add(who))
	}
	if clients == 1 {
		ok(t, x, rotate())
	}
	flush(t, x, 1)
	ok(t, x, keep(1))
	for who := 2; who <= clients; who++ {
		ok(t, x, join(who))
		if !x.Joined(who) {
			t.Fatalf("%d has not joined", who)
		}
	}
	return x
}

// teller is what tells all of a simulation.
type teller interface {
	Steps() int
	Nodes(who int) []api.Node
	Chain(who int) (int, string)
	Accepted(who int) []api.Item
	Opened(i api.Item) (api.Record, bool)
	Issued() []api.Op
	Group(who int) api.Group
	Epochs(who int) []int
	Joined(who int) bool
	Tampered(who int) bool
	Waits(who int) int
	Runs(who int) bool
	View() []api.Seen
	Last() int
}

// told is all that a simulation tells but its steps and frames, and seen those.
type told struct {
	Clients []ofClient
	Opened  []api.Record
	Issued  []api.Op
	Last    int
}

type ofClient struct {
	Nodes            []api.Node
	Many             int
	Chain            string
	Accepted         []api.Item
	Group            api.Group
	Epochs           []int
	Joined, Tampered bool
	Waits            int
	Runs             bool
}

func tell(x teller) told {
	a := told{Issued: some(x.Issued()), Last: x.Last()}
	for who := -1; who <= 8; who++ {
		c := ofClient{Nodes: some(x.Nodes(who)), Accepted: some(x.Accepted(who)), Group: x.Group(who), Epochs: some(x.Epochs(who)), Joined: x.Joined(who), Tampered: x.Tampered(who), Waits: x.Waits(who), Runs: x.Runs(who)}
		c.Many, c.Chain = x.Chain(who)
		a.Clients = append(a.Clients, c)
		for _, i := range c.Accepted {
			r, _ := x.Opened(i)
			r.Wraps = some(r.Wraps)
			a.Opened = append(a.Opened, r)
		}
	}
	return a
}

// some is a list; nil, if it is an empty one.
func some[T any](l []T) []T {
	if len(l) == 0 {
		return nil
	}
	return l
}

// same holds that two tell the same.
func same(t *testing.T, what string, x, y teller) {
	t.Helper()
	if a, b := tell(x), tell(y); !reflect.DeepEqual(a, b) {
		for k := range a.Clients {
			if !reflect.DeepEqual(a.Clients[k], b.Clients[k]) {
				t.Errorf("client %d:\n%s\n%s", k-1, short(a.Clients[k]), short(b.Clients[k]))
			}
		}
		t.Fatalf("%s: they differ: %d, %d, %s", what, a.Last, b.Last, short(b.Issued))
	}
	if x.Steps() != y.Steps() {
		t.Fatalf("%s: %d steps, %d", what, x.Steps(), y.Steps())
	}
	if a, b := x.View(), y.View(); !slices.Equal(a, b) {
		t.Fatalf("%s: they saw different frames: %d, %d", what, len(a), len(b))
	}
}

// unchanged holds that something changes nothing that is told, but for the steps and the frames.
func unchanged(t *testing.T, what string, x *Sim, call func()) {
	t.Helper()
	was := tell(x)
	call()
	if is := tell(x); !reflect.DeepEqual(is, was) {
		t.Errorf("%s: it has changed:\n%s\n%s", what, short(was), short(is))
	}
}

// refused holds that steps are refused so, count, are seen by no relay, and change nothing.
func refused(t *testing.T, x *Sim, want api.Errno, steps ...api.Step) {
	t.Helper()
	for _, s := range steps {
		many, view := x.Steps(), x.View()
		unchanged(t, short(s), x, func() { does(t, x, want, s) })
		if x.Steps() != many+1 {
			t.Errorf("%s: %d steps, %d ahead", short(s), x.Steps(), many)
		}
		if !slices.Equal(x.View(), view) {
			t.Errorf("%s: the relay has heard something", short(s))
		}
	}
}

// framesOf are the frames that were seen, and what was answered.
func framesOf(t *testing.T, l []api.Seen) (in, out []api.Frame) {
	t.Helper()
	for _, s := range l {
		f, e := wire.Take(s.In)
		a, bad := wire.Take(s.Out)
		if e != api.OK || bad != api.OK {
			t.Fatalf("no frames: %x %x", s.In, s.Out)
		}
		in, out = append(in, f), append(out, a)
	}
	return in, out
}

// asBytes are a frame's bytes.
func asBytes(t *testing.T, f api.Frame) string {
	t.Helper()
	s, e := wire.Put(f)
	if e != api.OK {
		t.Fatalf("wire.Put %s: %d", short(f), e)
	}
	return s
}

// lastSeen is what was asked, and answered, last.
func lastSeen(t *testing.T, x *Sim) (in, out api.Frame) {
	t.Helper()
	l := x.View()
	if len(l) == 0 {
		t.Fatal("nothing was seen")
	}
	a, b := framesOf(t, l[len(l)-1:])
	return a[0], b[0]
}

// has holds how many records a client accepted.
func has(t *testing.T, x *Sim, who, many int) {
	t.Helper()
	if n, _ := x.Chain(who); n != many || len(x.Accepted(who)) != many {
		t.Errorf("%d accepted %d, %d are told, not %d", who, n, len(x.Accepted(who)), many)
	}
}

// hand is a simulation by hand: clients, devices and a relay, without what drives them.
type hand struct {
	relay    *relay.Relay
	seal     *vault.Sealer
	many     int
	clients  map[int]*client.Client
	devices  map[int]*block.Device
	steps    int
	pending  map[int][]api.Step
	heard    map[int][]string
	accepted map[int][]api.Item
	sent     []sent
	issued   []api.Op
	view     []api.Seen
}

type sent struct {
	frame  api.Frame
	record api.Record
}

// fresh is layer 15's Fresh.
func fresh(seed string, n int) string {
	s, _ := keys.Fresh(seed, n)
	return s
}

func ownKeys(who int) []string {
	l := []string{"", "", "", "", "", ""}
	l[who-1] = fresh("own", who)
	if who == 1 {
		l = []string{fresh("own", 1), fresh("own", 2), fresh("own", 3), fresh("own", 4), fresh("own", 5), fresh("own", 6)}
	}
	return l
}

func handOf(c api.Config) *hand {
	h := &hand{seal: vault.Real(), many: c.Clients, clients: map[int]*client.Client{}, devices: map[int]*block.Device{}, pending: map[int][]api.Step{}, heard: map[int][]string{}, accepted: map[int][]api.Item{}}
	if c.Ideal {
		h.seal = vault.Ideal("sim")
	}
	h.relay, _ = relay.New(0, c.Quota)
	for who := 1; who <= c.Clients; who++ {
		h.devices[who], _ = block.New(1100)
		h.clients[who], _ = client.Open(h.devices[who], h.seal, who, ownKeys(who))
	}
	return h
}

func (h *hand) Nodes(who int) []api.Node    { return h.clients[who].Nodes() }
func (h *hand) Chain(who int) (int, string) { return h.clients[who].Chain() }
func (h *hand) Accepted(who int) []api.Item { return h.accepted[who] }
func (h *hand) Issued() []api.Op            { return h.issued }
func (h *hand) Group(who int) api.Group     { return h.clients[who].Group() }
func (h *hand) Epochs(who int) []int        { return h.clients[who].Epochs() }
func (h *hand) Joined(who int) bool         { return h.clients[who].Joined() }
func (h *hand) Tampered(who int) bool       { return h.clients[who].Tampered() }
func (h *hand) Waits(who int) int           { return h.clients[who].Waits() }
func (h *hand) Runs(who int) bool           { return h.devices[who] != nil && !h.devices[who].Off() }
func (h *hand) View() []api.Seen            { return h.view }
func (h *hand) Last() int                   { return h.relay.Last() }
func (h *hand) Steps() int                  { return h.steps }

func (h *hand) Opened(i api.Item) (api.Record, bool) {
	for _, s := range h.sent {
		if s.frame.Epoch == i.Epoch && s.frame.Blob == i.Blob {
			return s.record, true
		}
	}
	return api.Record{}, false
}

// Step does a step by hand; ErrFull is not asked here.
func (h *hand) Step(s api.Step) api.Errno {
	h.steps++
	at := s.At
	switch s.Kind {
	case api.StepAdd, api.StepRemove, api.StepRotate:
		if s.Kind != api.StepRotate && (at < 1 || at > 6) {
			return api.ErrArg
		}
		if h.devices[1].Off() {
			return api.ErrOff
		}
		if s.Kind == api.StepRotate {
			return h.clients[1].Control(api.RecRotate, 0)
		}
		return h.clients[1].Control(map[int]int{api.StepAdd: api.RecAdd, api.StepRemove: api.RecRemove}[s.Kind], at)
	}
	c, d := h.clients[at], h.devices[at]
	if s.Kind < 1 || s.Kind > 11 || c == nil {
		return api.ErrArg
	}
	if s.Kind == api.StepTwist {
		h.pending[at] = []api.Step{s}
		return api.OK
	}
	if s.Kind == api.StepStart {
		d.On()
		h.clients[at], _ = client.Open(d, h.seal, at, ownKeys(at))
		return api.OK
	}
	if d.Off() {
		return api.ErrOff
	}
	switch s.Kind {
	case api.StepFuse:
		return d.Fuse(s.N)
	case api.StepEdit:
		o, e := c.Edit(h.op(s, c.Nodes()))
		if e == api.OK {
			h.issued = append(h.issued, o)
		}
		return e
	case api.StepSend:
		return h.goes(at, c.Send, true)
	case api.StepFetch:
		return h.goes(at, func() (string, api.Errno) { return c.Fetch(s.N) }, true)
	case api.StepKeep:
		return h.goes(at, c.Keep, true)
	}
	return h.goes(at, c.Join, true)
}

func (h *hand) op(s api.Step, l []api.Node) api.Op {
	ids := []api.Stamp{{}}
	for _, n := range l {
		ids = append(ids, n.Id)
	}
	id := func(n int) api.Stamp {
		for n < 0 {
			n += len(ids)
		}
		return ids[n%len(ids)]
	}
	node := id(s.Node)
	if node == (api.Stamp{}) {
		node = api.Stamp{Time: 1, Who: 1}
	}
	switch s.Op {
	case api.OpCreate:
		return api.Op{Kind: s.Op, Parent: id(s.Into), Name: s.Name}
	case api.OpMove:
		return api.Op{Kind: s.Op, Node: node, Parent: id(s.Into)}
	case api.OpRename:
		return api.Op{Kind: s.Op, Node: node, Name: s.Name}
	case api.OpSet:
		return api.Op{Kind: s.Op, Node: node, Value: s.Value}
	}
	return api.Op{Kind: s.Op, Node: node}
}

// goes lets a client send something, and hear what comes of that.
func (h *hand) goes(at int, call func() (string, api.Errno), steps bool) api.Errno {
	c := h.clients[at]
	if !steps && h.devices[at].Off() {
		return api.ErrOff
	}
	s, e := call()
	if e != api.OK {
		return e
	}
	f, _ := wire.Take(s)
	if r, ok := c.Next(); ok && f.Kind == api.FrameAppend {
		h.sent = append(h.sent, sent{f, r})
	}
	a := h.relay.Hear(s)
	h.view = append(h.view, api.Seen{In: s, Out: a})
	if p := h.pending[at]; steps && len(p) > 0 {
		h.pending[at] = nil
		var heard bool
		if a, heard = h.twisted(at, a, p[0]); !heard {
			return api.OK
		}
	}
	n, _ := c.Chain()
	e = c.Hear(a)
	h.heard[at] = append(h.heard[at], a)
	is, _ := c.Chain()
	f, _ = wire.Take(a)
	if is > n && f.Kind == api.FrameSnap {
		h.accepted[at] = slices.Clone(h.accepted[1][:min(is, len(h.accepted[1]))])
	} else if is > n {
		h.accepted[at] = append(h.accepted[at], f.Items[:is-n]...)
	}
	return e
}

func (h *hand) twisted(at int, a string, s api.Step) (string, bool) {
	f, _ := wire.Take(a)
	l := f.Items
	switch ((s.N % 8) + 8) % 8 {
	case 0:
		return "", false
	case 1:
		return s.Text, true
	case 2:
		if len(l) > 0 {
			l[len(l)-1].Blob = flipped(l[len(l)-1].Blob)
		} else if f.Kind == api.FrameSnap {
			f.Blob = flipped(f.Blob)
		}
	case 3:
		f.Items = nil
		for k, i := range l {
			o := l[len(l)-1-k]
			f.Items = append(f.Items, api.Item{Seq: i.Seq, Epoch: o.Epoch, Blob: o.Blob})
		}
	case 4:
		if len(l) > 0 {
			f.Items = l[1:]
		}
	case 5:
		if n := len(l); n > 0 && n < 32 {
			f.Items = append(l, api.Item{Seq: l[n-1].Seq + 1, Epoch: l[n-1].Epoch, Blob: l[n-1].Blob})
		}
	case 6:
		for k := range l {
			l[k].Epoch++
		}
		if f.Kind == api.FrameSnap {
			f.Epoch++
		}
	case 7:
		if n := len(h.heard[at]); n > 0 {
			return h.heard[at][n-1], true
		}
	}
	out, _ := wire.Put(f)
	return out, true
}

// flipped is a text with its last byte turned.
func flipped(s string) string {
	b := []byte(s)
	b[len(b)-1] ^= 1
	return string(b)
}

// Calm is done by hand, too.
func (h *hand) Calm() bool {
	var live []int
	for who := 1; who <= h.many; who++ {
		if c := h.clients[who]; c.Joined() && !c.Tampered() && !h.devices[who].Off() {
			live = append(live, who)
		}
	}
	in := func(who int) bool {
		return h.clients[1].Group().Members[who-1].In && h.Joined(who) && h.Runs(who)
	}
	fetches := func(who int) (e api.Errno) {
		for n := -1; n != len(h.accepted[who]); {
			n = len(h.accepted[who])
			e = h.goes(who, func() (string, api.Errno) { return h.clients[who].Fetch(8) }, false)
		}
		return e
	}
	all := func(who int) {
		if fetches(who) == api.ErrGone {
			h.goes(who, h.clients[who].Join, false)
			fetches(who)
		}
	}
	for wait, n := true, 0; wait && n < 60; n++ {
		wait = false
		for _, who := range live {
			all(who)
			if h.Waits(who) > 0 {
				h.goes(who, h.clients[who].Send, false)
				fetches(who)
			}
		}
		for _, who := range live {
			wait = wait || in(who) && h.Waits(who) > 0
		}
	}
	calm := true
	for _, who := range live {
		all(who)
	}
	for _, who := range live {
		n, _ := h.Chain(who)
		calm = calm && (!in(who) || h.Waits(who) == 0 && !h.Tampered(who) && n == h.Last())
	}
	return calm
}

// drawnStep is any step, of which many are done.
func drawnStep(draw *rand.Rand, clients int) api.Step {
	s := api.Step{At: 1 + draw.Intn(clients), N: 1 + draw.Intn(9), Op: 1 + draw.Intn(5), Node: draw.Intn(9), Into: draw.Intn(5), Name: fmt.Sprint("n", draw.Intn(20)), Value: fmt.Sprint(draw.Intn(99))}
	switch n := draw.Intn(40); {
	case n < 11:
		s.Kind = api.StepEdit
	case n < 20:
		s.Kind = api.StepSend
	case n < 30:
		s.Kind = api.StepFetch
	case n < 32:
		s.Kind = api.StepKeep
		if draw.Intn(4) > 0 {
			s.At = 1
		}
	case n < 34:
		s.Kind = api.StepJoin
	case n < 36:
		s.Kind = api.StepAdd
	case n < 37:
		if s.Kind = api.StepRotate; draw.Intn(3) == 0 {
			s.Kind = api.StepRemove
		}
	case n < 38:
		s.Kind, s.N = api.StepFuse, draw.Intn(60)-2
	default:
		s.Kind = api.StepStart
	}
	return s
}
