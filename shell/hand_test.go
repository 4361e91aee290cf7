package shell

import (
	"encoding/hex"
	"fmt"
	"math/rand"
	"regexp"
	"strings"
	"testing"

	"samphire/api"
	"samphire/sim"
	"samphire/view"
	"samphire/wire"
)

const (
	maxScript = 1 << 16
	admins    = "world 1 ideal 99999\n"
)

// puts holds that a script has such a transcript.
func puts(t *testing.T, text, want string) {
	t.Helper()
	if is := Run(text); is != want {
		t.Errorf("%.3000q:\n%.3000q, not\n%.3000q", text, is, want)
	}
}

// lines are some, each with a newline.
func lines(l ...string) string {
	if len(l) == 0 {
		return ""
	}
	return strings.Join(l, "\n") + "\n"
}

// after holds what the last lines of a script put out.
func after(t *testing.T, text string, want ...string) {
	t.Helper()
	l := strings.Split(strings.TrimSuffix(Run(text), "\n"), "\n")
	if len(l) < len(want) || !equal(l[len(l)-len(want):], want) {
		t.Errorf("%.3000q:\n%.3000q, not\n%.3000q", text, l, want)
	}
}

func equal(a, b []string) bool { return strings.Join(a, "\n") == strings.Join(b, "\n") }

// hexOf is a frame as a word.
func hexOf(t *testing.T, f api.Frame) string {
	t.Helper()
	s, e := wire.Put(f)
	if e != api.OK {
		t.Fatal(e)
	}
	return hex.EncodeToString([]byte(s))
}

// A script by hand.

type hand struct {
	x   *sim.Sim
	out string
}

var (
	numbers = regexp.MustCompile(`^(0|-?[1-9][0-9]{0,5}|-?1000000)$`)
	digits  = regexp.MustCompile(`^([0-9a-fA-F]{2})+$`)
)

// forms are the words of each line: N is a number, M a mode, H bytes, W any word.
const forms = `world N M N
make N N W
move N N N
name N N W
set N N W
trash N N
send N
fetch N N
keep N
join N
add N
remove N
rotate
fuse N N
on N
twist N N
twist N N H
calm
show N
state N
relay`

// fits tells whether words are those of a line.
func fits(words []string) bool {
	for _, form := range strings.Split(forms, "\n") {
		f := strings.Split(form, " ")
		if f[0] != words[0] || len(f) != len(words) {
			continue
		}
		all := true
		for k, w := range words[1:] {
			switch f[k+1] {
			case "N":
				all = all && numbers.MatchString(w)
			case "M":
				all = all && (w == "ideal" || w == "real")
			case "H":
				all = all && digits.MatchString(w)
			}
		}
		return all
	}
	return false
}

// byHand is the transcript of a script.
func byHand(text string) string {
	if len(text) > maxScript {
		return ""
	}
	h := &hand{}
	for _, line := range strings.Split(text, "\n") {
		var words []string
		for _, w := range regexp.MustCompile("[ \t\r]+").Split(line, -1) {
			if w != "" {
				words = append(words, w)
			}
		}
		if len(words) == 0 || words[0][0] == '#' {
			continue
		}
		h.line(words)
	}
	return h.out
}

func (h *hand) tell(s string, e api.Errno) {
	if e != 0 {
		s = fmt.Sprintf("error %d", e)
	}
	h.out += s + "\n"
}

func (h *hand) line(words []string) {
	if !fits(words) {
		h.tell("", 240)
		return
	}
	var n [4]int
	for k := range min(3, len(words)-1) {
		fmt.Sscan(words[k+1], &n[k+1])
	}
	if words[0] == "world" {
		x, e := sim.New(api.Config{Clients: n[1], Ideal: words[2] == "ideal", Quota: n[3]})
		if e == 0 {
			h.x = x
		}
		h.tell("ok", e)
		return
	}
	if h.x == nil {
		h.tell("", 3)
		return
	}
	if !h.asks(words[0], n[1]) {
		h.tell("ok", h.x.Step(stepOf(words, n)))
	}
}

// stepOf is the step of a line.
func stepOf(words []string, n [4]int) api.Step {
	last := words[len(words)-1]
	s := api.Step{At: n[1]}
	switch words[0] {
	case "make":
		s.Kind, s.Op, s.Into, s.Name = 1, 1, n[2], last
	case "move":
		s.Kind, s.Op, s.Node, s.Into = 1, 2, n[2], n[3]
	case "name":
		s.Kind, s.Op, s.Node, s.Name = 1, 3, n[2], last
	case "set":
		s.Kind, s.Op, s.Node, s.Value = 1, 4, n[2], last
		if last == "-" {
			s.Value = ""
		}
	case "trash":
		s.Kind, s.Op, s.Node = 1, 5, n[2]
	case "send":
		s.Kind = 2
	case "fetch":
		s.Kind, s.N = 3, n[2]
	case "keep":
		s.Kind = 4
	case "join":
		s.Kind = 5
	case "add":
		s.Kind = 6
	case "remove":
		s.Kind = 7
	case "rotate":
		s.Kind, s.At = 8, 1
	case "fuse":
		s.Kind, s.N = 9, n[2]
	case "on":
		s.Kind = 10
	case "twist":
		s.Kind, s.N = 11, n[2]
		if len(words) == 4 {
			b, _ := hex.DecodeString(last)
			s.Text = string(b)
		}
	}
	return s
}

// asks tells whether a line only asks about the simulation, and tells that.
func (h *hand) asks(what string, who int) bool {
	switch what {
	case "calm":
		h.tell(map[bool]string{true: "calm", false: "uncalm"}[h.x.Calm()], 0)
	case "show":
		l, _ := view.Lines(h.x.Nodes(who))
		for _, x := range l {
			value := x.Value
			if value != "" {
				value = "=" + value
			}
			h.tell(strings.Repeat("  ", x.Deep)+x.Name+value, 0)
		}
		if len(l) == 0 {
			h.tell("none", 0)
		}
	case "state":
		n, _ := h.x.Chain(who)
		s := fmt.Sprint(n, " ", h.x.Waits(who), map[bool]string{true: " in", false: " out"}[h.x.Joined(who)], map[bool]string{true: " tampered", false: " true"}[h.x.Tampered(who)])
		for _, epoch := range h.x.Epochs(who) {
			s += fmt.Sprint(" ", epoch)
		}
		h.tell(s, 0)
	case "relay":
		h.tell(fmt.Sprint(h.x.Last(), " ", len(h.x.View())), 0)
	default:
		return false
	}
	return true
}

// drawnLine is one that is, mostly.
func drawnLine(draw *rand.Rand, clients int) string {
	forms := strings.Split(forms, "\n")
	form := forms[1+draw.Intn(len(forms)-1)]
	switch draw.Intn(8) {
	case 0, 1:
		form = "make N N W"
	case 2, 3:
		form = "send N"
	case 4, 5:
		form = "fetch N N"
	}
	words := strings.Split(form, " ")
	for k, w := range words {
		switch w {
		case "N":
			words[k] = fmt.Sprint(1 + draw.Intn(clients))
			if k > 1 {
				words[k] = fmt.Sprint(draw.Intn(10))
			}
			if draw.Intn(40) == 0 {
				words[k] = []string{"-1", "0", "7", "1000000", "1000001", "01", "+1", "-0", "x"}[draw.Intn(9)]
			}
		case "H":
			words[k] = []string{"00", "zz", "0"}[draw.Intn(3)]
		case "W":
			words[k] = []string{"a", "b", "c", "-", "é", "#", "/", "a~2"}[draw.Intn(8)]
		}
	}
	if words[0] == "fuse" && draw.Intn(3) > 0 {
		words[2] = fmt.Sprint(draw.Intn(60))
	}
	return drawnBlanks(draw, words)
}

// drawnBlanks is a line of words, or of nearly these, with blanks somehow.
func drawnBlanks(draw *rand.Rand, words []string) string {
	switch draw.Intn(50) {
	case 0:
		words = words[:len(words)-1]
	case 1:
		words = append(words, "1")
	case 2:
		words[0] = strings.ToUpper(words[0])
	case 3:
		words = append([]string{"#"}, words...)
	}
	s := []string{"", "", "", " ", "\t"}[draw.Intn(5)]
	for _, w := range words {
		s += w + []string{" ", " ", "\t", " \r "}[draw.Intn(4)]
	}
	return s
}

// drawnScript is one of so many lines.
func drawnScript(draw *rand.Rand, many int) []string {
	clients := 1 + draw.Intn(4)
	mode := []string{"ideal", "real"}[draw.Intn(2)]
	quota := []int{999999, 999999, 3000}[draw.Intn(3)]
	l := []string{fmt.Sprint("world ", clients, " ", mode, " ", quota)}
	for who := 2; who <= clients; who++ {
		l = append(l, fmt.Sprint("add ", who), "calm", "keep 1", fmt.Sprint("join ", who))
	}
	for len(l) < many {
		l = append(l, drawnLine(draw, clients))
	}
	return l
}
