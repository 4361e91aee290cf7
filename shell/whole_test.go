package shell

import (
	"encoding/hex"
	"fmt"
	"math/rand"
	"slices"
	"strings"
	"testing"

	"samphire/api"
	"samphire/code"
	"samphire/group"
	"samphire/keys"
	"samphire/pad"
	"samphire/sha"
	"samphire/snap"
	"samphire/vault"
	"samphire/wire"
)

// What can be told of the whole by scripts alone.

// snapshot is a frame, as a word, of a snapshot for a client, sealed by hand: its tree has one node of that name, and if
// that is "late", no time is left behind it.
func snapshot(t *testing.T, who int, name string) string {
	t.Helper()
	g := group.New()
	g.Members[who-1].In = true
	own := func(n int) string { s, _ := keys.Fresh("own", n); return s }
	key, _ := keys.Fresh(own(1), 1)
	at := api.Stamp{Time: 1, Who: 1}
	if name == "late" {
		at.Time = 1<<40 - 1
	}
	members, _ := group.Put(g)
	nodes, e := snap.Put(api.Snap{Ops: []api.Op{{Kind: api.OpCreate, At: at, Node: at, Name: name}}})
	if e != api.OK {
		t.Fatal(e)
	}
	o := code.NewOut()
	o.Num(1)
	o.Byte(1)
	o.Text(sha.Sum("some chain"))
	o.Text(members)
	o.Text("")
	o.Text(key)
	for k := range 6 {
		o.Num([]int{at.Time, 0, 0, 0, 0, 0}[k])
	}
	o.Text(nodes)
	content, _ := o.Done()
	padded, _ := pad.Pad(content)
	keep, _ := keys.Keep(key)
	nonce, _ := keys.Nonce(0, 1)
	sealed, e := vault.Real().Seal(keep, nonce, "keep", padded)
	if e != api.OK {
		t.Fatal(e)
	}
	blob := ""
	for n := 1; n <= 6; n++ {
		wrap, _ := keys.Wrap(own(n), n, 1, key)
		blob += wrap
	}
	f, e := wire.Put(api.Frame{Kind: api.FrameSnap, Seq: 1, Epoch: 1, Blob: blob + sealed})
	if e != api.OK {
		t.Fatal(e)
	}
	return hex.EncodeToString([]byte(f))
}

// The examples of the whole that are scripts.
func TestExamplesOfTheWhole(t *testing.T) {
	// a under b at 5, b under a at 6: the second one is not done.
	puts(t, admins+"make 1 0 a\nmake 1 0 b\ncalm\nmove 1 1 2\nmove 1 2 1\ncalm\nshow 1", lines("ok", "ok", "ok", "calm", "ok", "ok", "calm", "b", "  a"))
	// Two children a: a and a~2.
	puts(t, admins+"make 1 0 a\nmake 1 0 a\ncalm\nshow 1", lines("ok", "ok", "ok", "calm", "a", "a~2"))
	// Add 2: the epoch 2, with its key for 1 and for 2.
	puts(t, "world 2 real 99999\nadd 2\nsend 1\nfetch 1 8\nstate 1\nkeep 1\njoin 2\nstate 2", lines("ok", "ok", "ok", "ok", "1 0 in true 1 2", "ok", "ok", "1 0 in true 1 2"))
	// Edit, Send, Fetch: shown when the relay gave it back.
	puts(t, admins+"make 1 0 a\nshow 1\nsend 1\nshow 1\nfetch 1 8\nshow 1", lines("ok", "ok", "none", "ok", "none", "ok", "a"))
	// A blob with a bit turned: tampered.
	puts(t, admins+"make 1 0 a\nsend 1\ntwist 1 2\nfetch 1 8\nstate 1\nshow 1", lines("ok", "ok", "ok", "ok", "error 220", "0 1 in tampered 1", "none"))
	// Remove 3: it fetches that, and has no key any more.
	puts(t, "world 3 ideal 99999\nadd 2\nadd 3\ncalm\nkeep 1\njoin 2\njoin 3\nstate 3\nremove 3\nsend 1\nfetch 1 8\nfetch 3 8\nstate 3\nmake 3 0 a\nfetch 2 8\nstate 2", lines("ok", "ok", "ok", "calm", "ok", "ok", "ok", "2 0 in true 2 3", "ok", "ok", "ok", "ok", "3 0 out true", "error 221", "ok", "3 0 in true 3 4"))
}

// honest is a drawn script without twists, with which power fails; at its end all have power.
func honest(draw *rand.Rand, clients int, mode string) string {
	l := []string{fmt.Sprint("world ", clients, " ", mode, " 1000000")}
	for who := 2; who <= clients; who++ {
		l = append(l, fmt.Sprint("add ", who), "calm", "keep 1", fmt.Sprint("join ", who))
	}
	for range 120 {
		who := 1 + draw.Intn(clients)
		at := fmt.Sprint(" ", who, " ")
		node := fmt.Sprint(draw.Intn(20))
		l = append(l, []string{
			"make" + at + node + " n" + node, "make" + at + "0 m", "move" + at + node + " " + fmt.Sprint(draw.Intn(9)), "name" + at + node + " o",
			"set" + at + node + " v" + node, "trash" + at + node, "send" + at, "send" + at, "send" + at, "send" + at, "fetch" + at + "4", "fetch" + at + "9",
			"fetch" + at + "1", "fetch" + at + "30", "keep 1", "join" + at, "rotate", "fuse" + at + fmt.Sprint(draw.Intn(90)), "on" + at, "on" + at,
		}[draw.Intn(20)])
	}
	for who := 1; who <= clients; who++ {
		l = append(l, fmt.Sprint("on ", who))
	}
	return lines(append(l, "keep 1", "calm")...)
}

// P4, and P1 as all see it: whatever waits is sent and fetched, nobody is tampered, and all show the same tree.
func TestAllMeet(t *testing.T) {
	for seed := range int64(18) {
		draw := rand.New(rand.NewSource(400 + seed))
		clients := 1 + int(seed)%6
		text := honest(draw, clients, []string{"ideal", "real"}[seed/6%2])
		was := Run(text)
		if !strings.HasSuffix(was, "\ncalm\n") || strings.Contains(was, "error 220") {
			t.Fatalf("seed %d: %.300q", seed, was[max(0, len(was)-300):])
		}
		tell := func(line string) string { return Run(text + line)[len(was):] }
		first, state := tell("show 1"), tell("state 1")
		for who := 2; who <= clients; who++ {
			if s := tell(fmt.Sprint("show ", who)); s != first {
				t.Errorf("seed %d: %d shows\n%s, the admin\n%s", seed, who, s, first)
			}
			// The same records, and the same epoch's key, at the end.
			a, b := strings.Fields(tell(fmt.Sprint("state ", who))), strings.Fields(state)
			if !equal(a[:4], b[:4]) || a[len(a)-1] != b[len(b)-1] || a[3] != "true" {
				t.Errorf("seed %d: %d: %v, the admin: %v", seed, who, a, b)
			}
		}
		// One who comes late, too.
		if clients < 6 {
			late := strings.Replace(text, fmt.Sprint("world ", clients), fmt.Sprint("world ", clients+1), 1) + fmt.Sprintf("add %d\ncalm\nkeep 1\njoin %d\ncalm\n", clients+1, clients+1)
			if s := Run(late + fmt.Sprint("show ", clients+1)); s[len(Run(late)):] != first {
				t.Errorf("seed %d: who comes late shows %q", seed, s[len(Run(late)):])
			}
		}
	}
}

// P2: what was accepted is never less, and who is tampered stays so, whatever comes then.
func TestNothingIsTakenBack(t *testing.T) {
	all := map[string]int{}
	for seed := range int64(20) {
		draw := rand.New(rand.NewSource(200 + seed))
		clients := 2 + int(seed)%3
		l := drawnScript(draw, 120)
		// All that is told of clients is told of 1 and 2, in turn.
		l = slices.DeleteFunc(l, func(line string) bool { return strings.Contains(line, "state") || strings.Contains(line, "world") })
		for k := range l {
			if draw.Intn(8) == 0 {
				who := 1 + draw.Intn(2)
				l[k] = fmt.Sprintf("twist %d %d\nfetch %d 8", who, 2+draw.Intn(6), who)
			}
		}
		l = strings.Split(fmt.Sprintf("world %d real 999999\n", clients)+strings.Join(l, "\nstate 1\nstate 2\n"), "\n")
		many, tampered := [3]int{}, [3]bool{}
		who := 0
		for _, line := range strings.Split(Run(lines(l...)), "\n") {
			w := strings.Fields(line)
			if len(w) < 4 || w[2] != "in" && w[2] != "out" {
				continue
			}
			who = who%2 + 1
			var n int
			fmt.Sscan(w[0], &n)
			if n < many[who] || tampered[who] && w[3] != "tampered" {
				t.Fatalf("seed %d: %d: %q, it had %d, tampered %t", seed, who, line, many[who], tampered[who])
			}
			many[who], tampered[who] = n, w[3] == "tampered"
			all[w[3]]++
		}
	}
	if all["true"] < 100 || all["tampered"] < 100 {
		t.Error(all)
	}
}

// P3, as far as a script can tell: what is edited alone makes no difference to the relay, nor to how far clients are.
func TestTheRelayCanNotTell(t *testing.T) {
	for _, mode := range []string{"ideal", "real"} {
		var was string
		for _, names := range [][]string{{"a", "b", "v"}, {"é", "cc", "-"}, {"b", "b", "=="}} {
			text := "world 2 " + mode + " 99999\nadd 2\nmake 1 0 NAME\ncalm\nkeep 1\njoin 2\nmake 2 1 OTHER\nset 1 1 VALUE\ncalm\nmove 2 2 0\nname 1 2 NAME\ncalm\nkeep 1\nmake 1 2 OTHER\nsend 1\nstate 1\nstate 2\nrelay"
			is := Run(strings.NewReplacer("NAME", names[0], "OTHER", names[1], "VALUE", names[2]).Replace(text))
			if was != "" && is != was || !strings.Contains(is, "6 1 in true 1 2\n6 0 in true 1 2\n7 ") {
				t.Errorf("%s: %q, not %q", mode, is, was)
			}
			was = is
		}
	}
}

// P5: whenever the power goes off, a client that is opened anew is as ahead of what it did, or as behind it.
func TestAsAheadOrAsBehind(t *testing.T) {
	for _, mode := range []string{"ideal", "real"} {
		begin := "world 1 " + mode + " 99999\nmake 1 0 a\nsend 1\n"
		// What is told as ahead of a line, and as behind it; and, for each, when all is calm then.
		for line, told := range map[string][2][2]string{
			"make 1 0 b": {{"0 1 in true 1", "1 0 in true 1"}, {"0 2 in true 1", "2 0 in true 1"}},
			"rotate":     {{"0 1 in true 1", "1 0 in true 1"}, {"0 2 in true 1", "2 0 in true 1 2"}},
			"fetch 1 8":  {{"0 1 in true 1", "1 0 in true 1"}, {"1 0 in true 1", "1 0 in true 1"}},
		} {
			many := [2]int{}
			for n := range 60 {
				text := fmt.Sprintf("%sfuse 1 %d\n%s\non 1\n", begin, n, line)
				was := Run(text)
				l := strings.Split(Run(text + "state 1\ncalm\nstate 1\n")[len(was):], "\n")
				k := 0
				if l[0] == told[1][0] {
					k = 1
				}
				many[k]++
				if !equal(l, []string{told[k][0], "calm", told[k][1], ""}) {
					t.Fatalf("%s, %d: %q", line, n, l)
				}
				done := was == "ok\nok\nok\nok\nok\nok\n"
				if !done && was != "ok\nok\nok\nok\nerror 170\nok\n" || done && k == 0 {
					t.Fatalf("%s, %d: %q", line, n, was)
				}
			}
			if many[0] < 3 || many[1] < 3 {
				t.Error(line, many)
			}
		}
	}
}
