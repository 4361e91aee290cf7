package shell

import (
	"fmt"
	"math/rand"
	"strings"
	"sync"
	"testing"

	"samphire/api"
)

// Sc1: what a script is.

func TestTheChaptersExample(t *testing.T) {
	puts(t, "world 1 ideal 9999\nmake 1 0 a\ncalm\nshow 1\n", "ok\nok\ncalm\na\n")
}

func TestScriptsThatSayNothing(t *testing.T) {
	for _, text := range []string{"", "\n", "\n\n\n", " ", "\t\r \n \r", "#", "# calm", " \t#calm\n\r# world 1 ideal 9", "##", "#\n", "#\x00\xff"} {
		puts(t, text, "")
		puts(t, text+"\nrelay\n"+text, "error 3\n")
	}
}

func TestTheLongestScript(t *testing.T) {
	for _, begin := range []string{"", "world 1 ideal 9\n", "world 1 ideal 9\nmake 1 0 a\nshow 1\nno\n"} {
		want := Run(begin)
		for _, fill := range []string{"#", " ", "\n"} {
			text := begin + strings.Repeat(fill, maxScript-len(begin))
			puts(t, text, want)
			puts(t, text[1:], Run(begin[min(1, len(begin)):]))
			puts(t, text+fill, "")
			puts(t, text+text, "")
		}
	}
	// The last word counts, up to the last byte.
	calms := admins + strings.Repeat("#", maxScript-len(admins)-5) + "\ncalm"
	puts(t, calms, "ok\ncalm\n")
	puts(t, calms+"\n", "")
	puts(t, strings.Repeat("relay ", maxScript/6), "error 240\n")
	puts(t, strings.Repeat("x\n", maxScript/2), strings.Repeat("error 240\n", maxScript/2))
	puts(t, admins+strings.Repeat("keep 1\n", 9000), "ok\n"+strings.Repeat("error 3\n", 9000))
}

func TestTheLastLine(t *testing.T) {
	for _, line := range []string{"calm", "show 1", "state 1", "relay", "no", "keep 1", "world 9 ideal 9", "# calm", ""} {
		want := Run(admins + line)
		if line != "" && line[0] != '#' && !strings.HasSuffix(want, "\n") || !strings.HasPrefix(want, "ok\n") {
			t.Errorf("%q", want)
		}
		for _, end := range []string{"\n", " ", "\r\n", "\n\n", "\n# no", " \n\t"} {
			puts(t, admins+line+end, want)
		}
	}
}

func TestWordsArePartedByThreeBytesAlone(t *testing.T) {
	for _, blank := range []string{" ", "\t", "\r", "  ", " \t\r", "\r\r\t \t"} {
		line := strings.Join([]string{"", "set", "1", "1", "v", ""}, blank)
		puts(t, admins+"make 1 0 a\ncalm\n"+line+"\ncalm\nshow 1", "ok\nok\ncalm\nok\ncalm\na=v\n")
		puts(t, strings.Join([]string{"", "world", "1", "real", "0", ""}, blank), "ok\n")
	}
	for _, b := range []string{"\x00", "\x01", "\x0b", "\x0c", "\x1f", "!", ",", "\x7f", "\x80", "\x85", "\xa0", "\xff", "\u0085", "\u00a0", "\u1680", "\u2000", "\u2003", "\u2028", "\u202f", "\u3000", "\ufeff", "\xe2\x80", "#"} {
		for _, v := range []string{b, "v" + b, "v" + b + "w", b + b} {
			puts(t, admins+"make 1 0 a\ncalm\nset 1 1 "+v+"\ncalm\nshow 1\n", "ok\nok\ncalm\nok\ncalm\na="+v+"\n")
		}
		for _, line := range []string{"calm" + b, "fetch 1" + b + "1", "fetch 1 1" + b, "fetch 1 " + b, "fetch" + b + "1 1", "calm " + b} {
			puts(t, admins+line, "ok\nerror 240\n")
		}
		if b != "#" {
			puts(t, admins+b+"calm\n"+b, "ok\nerror 240\nerror 240\n")
		}
	}
}

// What is passed over is what begins with #: within a line that is a byte as any other.
func TestRemarks(t *testing.T) {
	puts(t, admins+"#\n # no\n\t\r#make 1 0 b\nmake 1 0 #\nmake 1 0 a#b\nmake 1 0 c # no\ncalm #\ncalm#\ncalm\nshow 1\nset 1 1 #\ncalm\nshow 1", lines("ok", "ok", "ok", "error 240", "error 240", "error 240", "calm", "#", "a#b", "ok", "calm", "#=#", "a#b"))
}

// Each kind of line, as it is to be: behind it, one with a word less, or more, is none.
func samples() []string {
	return []string{"world 1 ideal 9", "make 1 0 a", "move 1 1 0", "name 1 1 b", "set 1 1 v", "trash 1 1", "send 1", "fetch 1 1", "keep 1", "join 1", "add 2", "remove 2", "rotate", "fuse 1 1", "on 1", "twist 1 1", "twist 1 1 00", "calm", "show 1", "state 1", "relay"}
}

func TestSoManyWordsAndNoOthers(t *testing.T) {
	for _, line := range samples() {
		words := strings.Split(line, " ")
		for _, begin := range []string{"", admins} {
			fine := Run(begin + line)
			if strings.Contains(fine, "240") {
				t.Errorf("%s: %q", line, fine)
			}
			less := strings.Join(words[:len(words)-1], " ")
			if len(words) > 1 && line != "twist 1 1 00" {
				puts(t, begin+less, Run(begin)+"error 240\n")
			}
			puts(t, begin+words[0]+strings.Repeat(" 1", 5), Run(begin)+"error 240\n")
			for _, more := range []string{"1", "00", "-", "#", "\x00"} {
				if line != "twist 1 1" {
					puts(t, begin+line+" "+more, Run(begin)+"error 240\n")
				}
			}
			puts(t, begin+strings.ToUpper(line), Run(begin)+"error 240\n")
			puts(t, begin+words[0][1:]+" 1 1", Run(begin)+"error 240\n")
			puts(t, begin+words[0]+"s"+line[len(words[0]):], Run(begin)+"error 240\n")
		}
	}
	for _, line := range []string{"no", "1", "-", "ok", "error 240", "world1 ideal 9", "make,1,0,a", "help", "\x00", "é", "twist 1", "twist 1 1 00 00"} {
		puts(t, line, "error 240\n")
		puts(t, admins+line+"\nrelay", "ok\nerror 240\n0 0\n")
	}
}

// places are where a line has a number: "?" stands there.
func places() []string {
	return []string{"world ? ideal 9", "world 1 real ?", "make ? 0 a", "make 1 ? a", "move ? 1 0", "move 1 ? 0", "move 1 1 ?", "name ? 1 b", "name 1 ? b", "set ? 1 v", "set 1 ? v", "trash ? 1", "trash 1 ?", "send ?", "fetch ? 1", "fetch 1 ?", "keep ?", "join ?", "add ?", "remove ?", "fuse ? 1", "fuse 1 ?", "on ?", "twist ? 1", "twist 1 ?", "twist ? 1 00", "twist 1 ? 00", "show ?", "state ?"}
}

func TestNumbers(t *testing.T) {
	for _, place := range places() {
		for _, begin := range []string{"", admins, admins + "make 1 0 a\ncalm\n"} {
			for _, s := range []string{"00", "01", "-01", "-0", "-00", "+1", "+0", "-", "--1", "-+1", "+-1", "1000001", "-1000001", "9999999", "99999999999999999999", "-99999999999999999999", "18446744073709551617", "x", "1x", "x1", "1.0", "1e3", "0x1", "1_0", "1,0", "\u0661", "１", "1-", "1\x00", "\x0b1", "000", "0001000000", "\""} {
				puts(t, begin+strings.Replace(place, "?", s, 1), Run(begin)+"error 240\n")
			}
			for _, s := range []string{"0", "1", "-1", "9", "10", "999999", "1000000", "-1000000", "-999999", "7", "-10"} {
				if is := Run(begin + strings.Replace(place, "?", s, 1)); strings.Contains(is, "240") || is == Run(begin) {
					t.Errorf("%s with %s: %q", place, s, is)
				}
			}
		}
	}
}

// Numbers are just those that are written: here they are all told apart.
func TestNumbersAreAsTheyAreWritten(t *testing.T) {
	begin := admins + "make 1 0 a\nmake 1 0 b\ncalm\n"
	// Three places there are: the root, a, and b.
	for n, name := range map[int]string{0: "", 1: "a", 2: "b", 3: "", 4: "a", 5: "b", 12: "", -1: "b", -2: "a", -3: "", -10: "b", 1000000: "a", 999999: "", -1000000: "b", 123456: "", -123455: "a"} {
		want := []string{"a", "b", "c"}
		for k, s := range want {
			if s == name {
				want = append(want[:k+1:k+1], append([]string{"  c"}, want[k+1:2]...)...)
			}
		}
		after(t, begin+fmt.Sprintf("make 1 %d c\ncalm\nshow 1", n), want...)
	}
	for who := -3; who <= 9; who++ {
		want := "ok"
		if who != 1 {
			want = "error 1"
		}
		after(t, begin+fmt.Sprint("join ", who, "\nfuse ", who, " 9\non ", who), strings.ReplaceAll(want, "ok", "error 3"), want, want)
	}
	// A fuse burns down at its number, and one below 0 never does.
	for n, want := range map[int]string{0: "error 170", 1: "error 170", 1000000: "ok", -1: "ok", -1000000: "ok"} {
		after(t, fmt.Sprint(begin, "fuse 1 ", n, "\nmake 1 0 c"), "ok", want)
	}
	// Twists go by 8.
	for n, want := range map[int]string{0: "ok", 8: "ok", 16: "ok", -8: "ok", 1000000: "ok", -1000000: "ok", 1: "error 190", 9: "error 190", -7: "error 190", 999993: "error 190", 2: "error 220", -6: "error 220", 3: "ok", 4: "ok", 5: "error 220", 6: "error 220", 7: "ok"} {
		after(t, fmt.Sprint(begin, "make 1 0 c\nmake 1 0 d\nsend 1\nfetch 1 9\nsend 1\ntwist 1 ", n, "\nfetch 1 9"), "ok", want)
	}
}

func TestFetchesSoMany(t *testing.T) {
	for n, want := range map[int]string{0: "ok", 3: "ok", 1000000: "ok", -1: "error 1", -1000000: "error 1"} {
		after(t, "world 2 real 99999\n"+fmt.Sprint("fetch 1 ", n), want)
	}
	two := "world 2 real 99999\nadd 2\nsend 1\nfetch 1 8\nkeep 1\njoin 2\n" + strings.Repeat("make 1 0 a\nsend 1\nfetch 1 8\n", 5)
	for n, want := range map[int]int{0: 1, 1: 2, 2: 3, 4: 5, 5: 6, 6: 6, 1000000: 6} {
		after(t, fmt.Sprint(two, "fetch 2 ", n, "\nstate 2"), fmt.Sprint(want, " 0 in true 1 2"))
	}
}

func TestModes(t *testing.T) {
	for _, mode := range []string{"", "Ideal", "REAL", "ideals", "rea", "1", "0", "-", "true", "ideal,real", "real\x00"} {
		for _, begin := range []string{"", admins} {
			puts(t, begin+"world 1 "+mode+" 9\nrelay", Run(begin)+"error 240\n"+Run(begin + "relay\n")[len(Run(begin)):])
		}
	}
	puts(t, "world 1 ideal 9\nworld 1 real 9", "ok\nok\n")
}

// Which of the two ways to seal there is, only what is sealed by hand can tell.
func TestTheModesAreTwo(t *testing.T) {
	// Sealed by the functions of RFC 8439: a snapshot for the client 2.
	s := snapshot(t, 2, "a")
	for mode, want := range map[string]string{"ideal": "error 70", "real": "ok"} {
		after(t, "world 2 "+mode+" 9999\ntwist 2 1 "+s+"\njoin 2", "ok", want)
	}
}

func TestHex(t *testing.T) {
	taken := hexOf(t, api.Frame{Kind: api.FrameTaken, Seq: 0xabcdef})
	begin := admins + "make 1 0 a\n"
	for _, s := range []string{taken, strings.ToUpper(taken), strings.ToUpper(taken[:40]) + taken[40:]} {
		puts(t, begin+"twist 1 1 "+s+"\nsend 1", "ok\nok\nok\nok\n")
	}
	// What is heard is just those bytes: another one, and it would be no frame.
	for _, s := range []string{taken[:len(taken)-2], taken + "00", "00", "ff", "0a" + taken[2:]} {
		puts(t, begin+"twist 1 1 "+s+"\nsend 1", "ok\nok\nok\nerror 190\n")
	}
	for _, s := range []string{"0", "000", taken + "0", taken[1:], "zz", "0g", "g0", "-0", "0x00", "-", "+1", "0.", "éé", "é", "00zz", "0\x000", "\xff\xff"} {
		for _, n := range []string{"1", "0", "5"} {
			puts(t, begin+"twist 1 "+n+" "+s+"\nsend 1", "ok\nok\nerror 240\nok\n")
		}
	}
	// Without any, it is the empty text.
	puts(t, begin+"twist 1 1\nsend 1", "ok\nok\nok\nerror 190\n")
	puts(t, begin+"twist 1 1 "+strings.Repeat("00", 30000)+"\nsend 1", "ok\nok\nok\nerror 190\n")
}

// Errors.

func TestWithoutASimulation(t *testing.T) {
	for _, line := range samples()[1:] {
		puts(t, line, "error 3\n")
		puts(t, line+"\nworld 0 ideal 9\n"+line+"\nworld 1 ideal -1\n"+line, "error 3\nerror 1\nerror 3\nerror 1\nerror 3\n")
	}
	puts(t, strings.Join(samples()[1:], "\n"), strings.Repeat("error 3\n", len(samples())-1))
}

// Where both could be, a line that is none is that; and so it is, if layer 23 would refuse it.
func TestWhichErrorComesFirst(t *testing.T) {
	puts(t, "send\nsend x\nsend 9\nfetch 9 x\nfetch x 9\ntwist 9 1 zz\nshow x\nstate -0\nmake 1 01 a\nmake 1 0\nno\ncalm 1\nrelay 1\n", strings.Replace(strings.Repeat("error 240\n", 13), "error 240\nerror 240\nerror 240\n", "error 240\nerror 240\nerror 3\n", 1))
	puts(t, admins+"fetch 9 x\nfetch 9 9\ntwist 9 1 zz\ntwist 9 1 00\nmake 9 x a\nmake 9 9 a\nworld 9 no 9\nworld 9 ideal x\nworld 9 ideal 9\nsend\nsend 1", lines("ok", "error 240", "error 1", "error 240", "error 1", "error 240", "error 1", "error 240", "error 240", "error 1", "error 240", "error 3"))
	puts(t, admins+"fuse 1 0\nmake 1 0 a\nsend 1 1\nmake 1 0 a\non 1\nsend 1", lines("ok", "ok", "error 170", "error 240", "error 170", "ok", "error 3"))
}

func TestWorld(t *testing.T) {
	bad := []string{"world 0 ideal 9", "world 7 ideal 9", "world -1 real 9", "world 1000000 real 9", "world 1 ideal -1", "world 0 real -1", "world -1000000 real 9"}
	for _, line := range bad {
		puts(t, line+"\nrelay\nshow 1", "error 1\nerror 3\nerror 3\n")
		puts(t, admins+"make 1 0 a\nsend 1\nfetch 1 9\n"+line+"\nrelay\nshow 1\nstate 1", "ok\nok\nok\nok\nerror 1\n1 2\na\n1 0 in true 1\n")
	}
	// With a quota, and as many clients as it says.
	for n := 1; n <= 6; n++ {
		for _, q := range []int{0, 143, 144, 1000000} {
			for _, mode := range []string{"ideal", "real"} {
				s := "ok\nerror 1\nok\nerror 211\n"
				if q > 143 {
					s = "ok\nerror 1\nok\nok\n"
				}
				puts(t, fmt.Sprintf("world %d %s %d\njoin %d\nmake 1 0 a\nsend 1", n, mode, q, n+1), s)
				puts(t, fmt.Sprintf("world %d %s %d\non %d", n, mode, q, n), "ok\nok\n")
			}
		}
	}
	// One that is made anew takes the place of the one that was.
	for _, mode := range []string{"ideal", "real"} {
		old := "world 3 " + mode + " 99999\nadd 2\nmake 1 0 a\ncalm\nkeep 1\njoin 2\nmake 2 1 b\nfuse 2 0\ntwist 1 2\n"
		anew := "world 2 " + mode + " 999\nshow 1\nstate 1\nstate 2\nstate 3\nrelay\nmake 1 0 x\nsend 1\nfetch 1 8\nshow 1\njoin 2\non 3\ncalm\n"
		puts(t, old+anew, Run(old)+Run(anew))
		puts(t, anew+old+anew, Run(anew)+Run(old)+Run(anew))
		after(t, anew, "none", "0 0 in true 1", "0 0 out true", "0 0 out true", "0 0", "ok", "ok", "ok", "x", "error 3", "error 1", "calm")
	}
}

// Sc1: what each line does.

func TestEdits(t *testing.T) {
	puts(t, admins+"make 1 0 a\nmake 1 0 b\ncalm\nmake 1 1 c\ncalm\nshow 1\nmove 1 3 2\ncalm\nshow 1\nname 1 3 d\ncalm\nshow 1\nset 1 3 v\ncalm\nshow 1\ntrash 1 2\ncalm\nshow 1\nstate 1",
		lines("ok", "ok", "ok", "calm", "ok", "calm", "a", "  c", "b", "ok", "calm", "a", "b", "  c", "ok", "calm", "a", "b", "  d", "ok", "calm", "a", "b", "  d=v", "ok", "calm", "a", "7 0 in true 1"))
	// What may not be: names, and what is done with the root.
	puts(t, admins+"make 1 0 /\nmake 1 0 ..\nmake 1 0 \xff\nmake 1 0 "+strings.Repeat("a", 33)+"\nmake 1 0 "+strings.Repeat("é", 32)+"\ncalm\nname 1 1 a/b\nset 1 1 "+strings.Repeat("v", 65)+"\nset 1 1 "+strings.Repeat("v", 64)+"\ncalm\nshow 1",
		lines("ok", "error 1", "error 1", "error 1", "error 1", "ok", "calm", "error 1", "error 1", "ok", "calm", strings.Repeat("é", 32)+"="+strings.Repeat("v", 64)))
}

func TestSetOfNothing(t *testing.T) {
	for v, want := range map[string]string{"-": "a", "--": "a=--", "-x": "a=-x", "x-": "a=x-", "0": "a=0", "=": "a==", "none": "a=none", "\xff": "a=\xff", "v": "a=v"} {
		puts(t, admins+"make 1 0 a\ncalm\nset 1 1 w\ncalm\nshow 1\nset 1 1 "+v+"\ncalm\nshow 1", lines("ok", "ok", "calm", "ok", "calm", "a=w", "ok", "calm", want))
	}
	// Of others it is a word as any other one.
	puts(t, admins+"make 1 0 -\ncalm\nshow 1\nname 1 1 b\ncalm\nname 1 1 -\ncalm\nshow 1", lines("ok", "ok", "calm", "-", "ok", "calm", "ok", "calm", "-"))
	puts(t, admins+"set 1 1", "ok\nerror 240\n")
}

func TestMembers(t *testing.T) {
	puts(t, "world 3 real 99999\nadd 2\nsend 1\nfetch 1 8\nstate 1\nstate 2\nkeep 1\njoin 2\nstate 2\nrotate\nsend 1\nfetch 1 8\nstate 1\nfetch 2 8\nstate 2\nremove 2\nsend 1\nfetch 1 8\nstate 1\nfetch 2 8\nstate 2\nadd 2\nadd 3\ncalm\nstate 1\njoin 2\njoin 3\nkeep 1\njoin 2\njoin 3\nstate 2\nstate 3",
		lines("ok", "ok", "ok", "ok", "1 0 in true 1 2", "0 0 out true", "ok", "ok", "1 0 in true 1 2", "ok", "ok", "ok", "2 0 in true 2 3", "ok", "2 0 in true 2 3", "ok", "ok", "ok", "3 0 in true 3 4", "ok", "3 0 out true", "ok", "ok", "calm", "5 0 in true 5 6", "ok", "error 70", "ok", "ok", "ok", "5 0 in true 5 6", "5 0 in true 5 6"))
	// It is the admin who does so, whoever there is.
	puts(t, "world 1 ideal 9999\nadd 6\nremove 6\nadd 0\nadd 7\nremove 7\nremove 0\nadd -1\nrotate\nstate 1\nfuse 1 0\nrotate", lines("ok", "ok", "ok", "error 1", "error 1", "error 1", "error 1", "error 1", "ok", "0 3 in true 1", "ok", "error 170"))
}

func TestPowerGoesOff(t *testing.T) {
	puts(t, "world 2 ideal 99999\nmake 1 0 a\nfuse 1 0\nsend 1\nstate 1\nshow 1\nmake 1 0 b\nfetch 1 1\nkeep 1\njoin 1\nadd 2\nfuse 1 9\nrelay\ncalm\non 1\nstate 1\ncalm\nshow 1",
		lines("ok", "ok", "ok", "error 170", "0 1 in true 1", "none", "error 170", "error 170", "error 170", "error 170", "error 170", "error 170", "0 0", "calm", "ok", "0 1 in true 1", "calm", "a"))
}

func TestShow(t *testing.T) {
	begin := "world 2 ideal 99999\n"
	puts(t, begin+"show 1\nshow 2\nshow 3\nshow 0\nshow -1\nshow 1000000\nshow 7", "ok\n"+strings.Repeat("none\n", 7))
	// It shows what was accepted, of that client.
	puts(t, begin+"make 1 0 a\nshow 1\nsend 1\nshow 1\nfetch 1 8\nshow 1\nshow 2\nshow 3", lines("ok", "ok", "none", "ok", "none", "ok", "a", "none", "none"))
	// Siblings by names of their own, in their order; and nothing of the trash.
	puts(t, begin+"make 1 0 b\nmake 1 0 a\nmake 1 0 a\ncalm\nmake 1 3 c\nset 1 3 1\ncalm\nshow 1\ntrash 1 1\ncalm\nshow 1\ntrash 1 2\ntrash 1 3\ncalm\nshow 1\nstate 1",
		lines("ok", "ok", "ok", "ok", "calm", "ok", "ok", "calm", "a", "a~2=1", "  c", "b", "ok", "calm", "a", "a~2=1", "  c", "ok", "ok", "calm", "none", "8 0 in true 1"))
}

func TestState(t *testing.T) {
	puts(t, "world 3 real 99999\nstate 1\nstate 2\nstate 3\nstate 4\nstate 0\nstate -1\nstate 1000000",
		lines("ok", "0 0 in true 1", "0 0 out true", "0 0 out true", "0 0 out true", "0 0 out true", "0 0 out true", "0 0 out true"))
	puts(t, "world 2 real 99999\nmake 1 0 a\nmake 1 0 b\nstate 1\nsend 1\nstate 1\nfetch 1 8\nstate 1\nrotate\ncalm\nstate 1\nrotate\ncalm\nstate 1\nsend 1\nmake 1 0 c\nsend 1\ntwist 1 2\nfetch 1 8\nstate 1\ncalm\nstate 1\nmake 1 0 c\nshow 1",
		lines("ok", "ok", "ok", "0 2 in true 1", "ok", "0 2 in true 1", "ok", "1 1 in true 1", "ok", "calm", "3 0 in true 1 2", "ok", "calm", "4 0 in true 2 3", "error 3", "ok", "ok", "ok", "error 220", "4 1 in tampered 2 3", "calm", "4 1 in tampered 2 3", "error 220", "a", "b"))
	// What a snapshot tells of counts, though nobody here accepted that record.
	puts(t, "world 2 real 99999\ntwist 2 1 "+snapshot(t, 2, "a")+"\njoin 2\nstate 2\nstate 1\nshow 2", lines("ok", "ok", "ok", "1 0 in true 1", "0 0 in true 1", "a"))
}

func TestRelay(t *testing.T) {
	puts(t, "world 2 real 99999\nrelay\nmake 1 0 a\nrelay\nsend 1\nrelay\nsend 1\nrelay\ntwist 1 0\nfetch 1 8\nrelay\nkeep 1\nrelay\nfetch 1 8\nrelay\nkeep 1\nrelay\njoin 2\nrelay\nfetch 2 1\nrelay\nfuse 1 0\nrotate\nrelay",
		lines("ok", "0 0", "ok", "0 0", "ok", "1 1", "error 221", "1 1", "ok", "ok", "1 2", "error 3", "1 2", "ok", "1 3", "ok", "1 4", "error 70", "1 5", "error 221", "1 5", "ok", "error 170", "1 5"))
}

func TestCalm(t *testing.T) {
	puts(t, "world 2 ideal 99999\ncalm\nmake 1 0 a\nadd 2\ncalm\ncalm\nstate 1\nkeep 1\njoin 2\nmake 2 0 b\nmake 1 0 c\ncalm\nshow 1\nshow 2\nrelay",
		lines("ok", "calm", "ok", "ok", "calm", "calm", "2 0 in true 1 2", "ok", "ok", "ok", "ok", "calm", "a", "b", "c", "a", "b", "c", "4 "+relayOf(t, "world 2 ideal 99999\ncalm\nmake 1 0 a\nadd 2\ncalm\ncalm\nkeep 1\njoin 2\nmake 2 0 b\nmake 1 0 c\ncalm\nrelay")))
	// What waits, and can't be sent; and one that is tampered.
	puts(t, "world 1 ideal 100\nmake 1 0 a\ncalm\nstate 1", lines("ok", "ok", "uncalm", "0 1 in true 1"))
	puts(t, admins+"make 1 0 a\ntwist 1 2\nsend 1\nfetch 1 8\ncalm\nmake 1 0 b\nsend 1\ntwist 1 2\nfetch 1 8\ncalm", lines("ok", "ok", "ok", "ok", "ok", "calm", "ok", "ok", "ok", "error 220", "calm"))
	puts(t, "calm 1\ncalm", "error 240\nerror 3\n")
}

// relayOf is what a script's relay has heard at last.
func relayOf(t *testing.T, text string) string {
	t.Helper()
	l := strings.Split(strings.TrimSpace(byHand(text)), "\n")
	words := strings.Split(l[len(l)-1], " ")
	return words[len(words)-1]
}

// Each error that layer 23 may answer is put out as its number: those that come so, and those that are heard.
func TestErrorsAsTheirNumbers(t *testing.T) {
	two := "world 2 real 99999\nadd 2\ncalm\nkeep 1\njoin 2\n"
	for want, l := range map[int][]string{
		1:   {"send 9", "add 0", "make 1 0 /", "fetch 1 -1", "trash 7 1", "on 3", "twist 3 1"},
		2:   {strings.Repeat("make 1 0 a\n", 33), strings.Repeat("rotate\n", 33)},
		3:   {"send 1", "world 1 real 9\nkeep 1", "world 1 real 9\njoin 1"},
		70:  {"world 2 real 9999\nmake 1 0 a\ncalm\nkeep 1\njoin 2"},
		150: {"world 2 real 9999\ntwist 2 1 " + snapshot(t, 2, "late") + "\njoin 2\nmake 2 0 a"},
		170: {"fuse 1 0\nmake 1 0 a", "make 1 0 a\nfuse 1 0\nsend 1", "fuse 1 3\nmake 1 0 a\nmake 1 0 b\nmake 1 0 c", "fuse 2 0\nmake 2 0 a\nkeep 2"},
		190: {"make 1 0 a\ntwist 1 1 00\nsend 1", "make 1 0 a\nsend 1\nmake 2 0 b\nsend 2\ntwist 2 4\nfetch 2 8"},
		200: {"keep 2", "fuse 1 9\nkeep 2"},
		210: {"make 1 0 a\nsend 1\nfetch 1 8\nkeep 1\nfetch 2 8"},
		211: {"world 1 real 143\nmake 1 0 a\nsend 1"},
		220: {"make 1 0 a\nsend 1\ntwist 1 2\nfetch 1 8", "make 1 0 a\nsend 1\ntwist 2 6\nfetch 2 8\nkeep 1\nsend 2"},
		221: {"world 2 real 9\nmake 2 0 a", "world 2 real 9\nfetch 2 1", "make 1 0 a\nsend 1\nsend 1", "remove 2\nsend 1\nfetch 1 8\nfetch 2 8\nkeep 2"},
	} {
		for _, text := range l {
			is := Run(two + text)
			if !strings.HasSuffix(is, fmt.Sprintf("\nerror %d\n", want)) || !strings.HasPrefix(is, "ok\nok\ncalm\nok\nok\n") {
				t.Errorf("%d: %q: %q", want, text, is)
			}
		}
	}
	for _, n := range []int{1, 2, 3, 70, 80, 90, 91, 140, 150, 170, 190, 200, 201, 210, 211, 220, 221, 240, 999} {
		puts(t, admins+"twist 1 1 "+hexOf(t, api.Frame{Kind: api.FrameError, Err: api.Errno(n)})+"\nfetch 1 1\nstate 1", lines("ok", "ok", fmt.Sprint("error ", n), "0 0 in true 1"))
	}
}

// What is refused changes nothing: without those lines, the rest is put out likewise.
func TestWhatIsRefusedChangesNothing(t *testing.T) {
	begin := "world 3 ideal 99999\nadd 2\nmake 1 0 a\ncalm\nkeep 1\njoin 2\nmake 2 0 b\n"
	ask := "show 1\nshow 2\nshow 3\nstate 1\nstate 2\nstate 3\nrelay\n"
	end := "calm\n" + ask + "make 2 1 c\nset 1 1 v\nsend 2\nfetch 2 8\ncalm\n" + ask
	for _, line := range []string{"no", "world 0 ideal 9", "world 1 no 9", "world 1 ideal", "make 1 0 /", "make 9 0 a", "make 3 0 a", "make 1 x a", "move 1 0", "name 1 1 ..", "set 9 1 v", "trash 1 x", "send 1", "send 3", "fetch 1 -1", "fetch 3 1", "keep 2", "keep x", "add 0", "add 7", "remove x", "rotate 1", "fuse 4 0", "fuse 1", "on 4", "twist 4 1", "twist 2 1 zz", "twist 1 1 0", "calm 1", "show", "state x", "relay 1"} {
		is, was := Run(begin+strings.Repeat(line+"\n", 3)+end), Run(begin+end)
		cut := Run(begin)
		refused := strings.TrimPrefix(is, cut)
		first, rest, _ := strings.Cut(refused, "\n")
		if !strings.HasPrefix(first, "error ") || cut+strings.Replace(refused, strings.Repeat(first+"\n", 3), "", 1) != was || rest == "" {
			t.Errorf("%s:\n%q, not\n%q", line, is, was)
		}
	}
}

// Sc2.
func TestATranscriptBeginsWithThatOfEachBeginning(t *testing.T) {
	for seed := range int64(12) {
		l := drawnScript(rand.New(rand.NewSource(2400+seed)), 50)
		all := Run(lines(l...))
		was := ""
		for k := range l {
			for _, end := range []string{"", "\n"} {
				is := Run(strings.Join(l[:k], "\n") + end)
				if !strings.HasPrefix(all, is) || !strings.HasPrefix(is, was) || is != "" && is[len(is)-1] != '\n' {
					t.Fatalf("seed %d: cut behind %d lines:\n%q", seed, k, is)
				}
				was = is
			}
		}
		if was == all && !strings.HasPrefix(strings.TrimSpace(l[len(l)-1]), "#") {
			t.Errorf("seed %d: the last line puts nothing out", seed)
		}
		if !strings.Contains(all, "error ") {
			t.Errorf("seed %d: nothing is refused", seed)
		}
	}
}

// Drawn scripts, beside another way to do them.
func TestDrawnScripts(t *testing.T) {
	told := map[string]int{}
	for seed := range int64(60) {
		draw := rand.New(rand.NewSource(240 + seed))
		text := lines(append(drawnScript(draw, 90), drawnScript(draw, 70)...)...)
		is, want := Run(text), byHand(text)
		if is != want {
			a, b := strings.Split(is, "\n"), strings.Split(want, "\n")
			for k := range min(len(a), len(b)) {
				if a[k] != b[k] {
					t.Fatalf("seed %d: line %d: %q, not %q: \n%s", seed, k, a[k], b[k], text)
				}
			}
			t.Fatalf("seed %d: %d lines, not %d", seed, len(a), len(b))
		}
		for _, s := range strings.Split(is, "\n") {
			told[s]++
		}
	}
	for _, s := range []string{"ok", "calm", "none", "error 1", "error 3", "error 170", "error 190", "error 220", "error 221", "error 240"} {
		if told[s] < 10 {
			t.Errorf("%s: %d", s, told[s])
		}
	}
}

// R1 to R4.

// Whatever stands in a text, it ends, nothing panics, and each line that is one puts something out.
func TestDrawnBytes(t *testing.T) {
	draw := rand.New(rand.NewSource(24))
	for range 300 {
		l := strings.Join(drawnScript(draw, 30), "\n")
		b := []byte(l)
		for range draw.Intn(60) {
			k := draw.Intn(len(b))
			switch draw.Intn(4) {
			case 0:
				b[k] = byte(draw.Intn(256))
			case 1:
				b[k] = " \t\r\n#-0"[draw.Intn(7)]
			case 2:
				b = append(b[:k:k], b[k+1:]...)
			case 3:
				b = append(b[:k:k], append([]byte{b[draw.Intn(len(b))]}, b[k:]...)...)
			}
		}
		puts(t, string(b), byHand(string(b)))
	}
}

func TestTheSameTranscript(t *testing.T) {
	for _, mode := range []string{"ideal", "real"} {
		text := "world 3 " + mode + " 99999\n" + strings.Join(drawnScript(rand.New(rand.NewSource(5)), 150)[1:], "\n")
		was := Run(text)
		var all sync.WaitGroup
		out := make([]string, 8)
		for k := range out {
			all.Go(func() { out[k] = Run(text) })
		}
		all.Wait()
		for _, s := range append(out, Run(text)) {
			if s != was || len(s) < 300 {
				t.Errorf("%s: it is another one", mode)
			}
		}
	}
	// Nothing is kept from one script for the next one.
	puts(t, "relay", "error 3\n")
}

// What is no refusal is a fault of the program, which is not told as if a line had been refused.
func TestWhatIsNoRefusalIsNotHidden(t *testing.T) {
	all := map[string]way{"fault": {0, 0, func(*script, []string) string { panic("a fault") }}, "fine": {0, 0, func(*script, []string) string { return "fine\n" }}}
	s := &script{}
	if out := s.put(all, []string{"fine"}); out != "fine\n" {
		t.Error(out)
	}
	if out := s.put(all, []string{"fine", "1"}); out != "error 240\n" {
		t.Error(out)
	}
	defer func() {
		if caught := recover(); caught != "a fault" {
			t.Error(caught)
		}
	}()
	s.put(all, []string{"fault"})
}
