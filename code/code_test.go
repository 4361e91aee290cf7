package code

import (
	"encoding/binary"
	"fmt"
	"math"
	"math/rand"
	"slices"
	"strings"
	"testing"

	"samphire/api"
)

// The kinds of parts.
const (
	aByte = iota
	aNum
	aStamp
	aText
	kinds
)

// part is one that is written, or read: by its kind, n, stamp or text.
type part struct {
	kind  int
	n     int
	stamp api.Stamp
	text  string
}

func byteOf(n int) part          { return part{kind: aByte, n: n} }
func numOf(n int) part           { return part{kind: aNum, n: n} }
func stampOf(time, who int) part { return part{kind: aStamp, stamp: api.Stamp{Time: time, Who: who}} }
func textOf(s string) part       { return part{kind: aText, text: s} }
func textOfSize(n int) part      { return textOf(strings.Repeat("x", n)) }

// zero is what is read of a kind when something is wrong.
func zero(kind int) part { return part{kind: kind} }

func (p part) write(o *Out) {
	switch p.kind {
	case aByte:
		o.Byte(p.n)
	case aNum:
		o.Num(p.n)
	case aStamp:
		o.Stamp(p.stamp)
	case aText:
		o.Text(p.text)
	}
}

// readPart is the next part of a kind.
func readPart(i *In, kind, most int) part {
	p := zero(kind)
	switch kind {
	case aByte:
		p.n = i.Byte()
	case aNum:
		p.n = i.Num()
	case aStamp:
		p.stamp = i.Stamp()
	case aText:
		p.text = i.Text(most)
	}
	return p
}

// String is a part as a test tells it.
func (p part) String() string {
	switch p.kind {
	case aByte:
		return fmt.Sprintf("the byte %d", p.n)
	case aNum:
		return fmt.Sprintf("the number %d", p.n)
	case aStamp:
		return fmt.Sprintf("the stamp %d of %d", p.stamp.Time, p.stamp.Who)
	}
	return fmt.Sprintf("the text %.40q of %d bytes", p.text, len(p.text))
}

// other are a part's bytes, made by another way.
func (p part) other() string {
	var b []byte
	switch p.kind {
	case aByte:
		b = append(b, byte(p.n))
	case aNum:
		b = binary.BigEndian.AppendUint64(b, uint64(p.n))[2:]
	case aStamp:
		b = append(binary.BigEndian.AppendUint64(b, uint64(p.stamp.Time))[2:], byte(p.stamp.Who))
	case aText:
		b = append(binary.BigEndian.AppendUint16(b, uint16(len(p.text))), p.text...)
	}
	return string(b)
}

func others(l []part) string {
	var b strings.Builder
	for _, p := range l {
		b.WriteString(p.other())
	}
	return b.String()
}

// outOf has parts written to it.
func outOf(l ...part) *Out {
	o := NewOut()
	for _, p := range l {
		p.write(o)
	}
	return o
}

func isDone(t *testing.T, o *Out, want string) {
	t.Helper()
	if s, e := o.Done(); s != want || e != api.OK {
		t.Errorf("%d bytes %.60x %d, not %d bytes %.60x", len(s), s, e, len(want), want)
	}
}

func isRefused(t *testing.T, o *Out) {
	t.Helper()
	if s, e := o.Done(); s != "" || e != api.ErrArg {
		t.Errorf("%d bytes %.60x %d, not ErrArg", len(s), s, e)
	}
}

// staysRefused holds that nothing that is written lets it be well again.
func staysRefused(t *testing.T, o *Out) {
	t.Helper()
	isRefused(t, o)
	isRefused(t, o)
	for _, p := range []part{byteOf(1), numOf(1), stampOf(1, 1), textOf(""), textOf("a"), byteOf(-1), textOfSize(70000), byteOf(0)} {
		p.write(o)
		isRefused(t, o)
	}
}

// isWrong holds that all of it answers as when something is wrong, and that this something is what Done tells.
func isWrong(t *testing.T, i *In, want api.Errno) {
	t.Helper()
	for _, kind := range []int{aByte, aNum, aStamp, aText, aByte, aText} {
		for _, most := range []int{-1, 0, 1, math.MaxInt, math.MinInt} {
			if n := i.Rest(); n != 0 {
				t.Errorf("Rest: %d", n)
			}
			if e := i.Done(); e != want {
				t.Errorf("Done: %d, not %d", e, want)
			}
			if p := readPart(i, kind, most); p != zero(kind) {
				t.Errorf("kind %d: %v", kind, p)
			}
		}
	}
}

// reads holds that a part is read of s, and that so many bytes are left.
func reads(t *testing.T, s string, most int, want part, left int) {
	t.Helper()
	i := NewIn(s)
	if n := i.Rest(); n != len(s) {
		t.Errorf("%.60x: Rest at first %d", s, n)
	}
	if p := readPart(i, want.kind, most); p != want {
		t.Errorf("%.60x: %v, not %v", s, p, want)
	}
	if n := i.Rest(); n != left {
		t.Errorf("%.60x: Rest %d, not %d", s, n, left)
	}
	e := api.OK
	if left > 0 {
		e = api.ErrForm
	}
	if got := i.Done(); got != e {
		t.Errorf("%.60x: Done %d, not %d", s, got, e)
	}
}

// readsWrong holds that a part of a kind is not read of s.
func readsWrong(t *testing.T, s string, kind, most int, want api.Errno) {
	t.Helper()
	i := NewIn(s)
	if p := readPart(i, kind, most); p != zero(kind) {
		t.Errorf("%.60x: kind %d, most %d: %v", s, kind, most, p)
	}
	isWrong(t, i, want)
}

// Cd1.

func TestExamples(t *testing.T) {
	isDone(t, outOf(numOf(258)), "\x00\x00\x00\x00\x01\x02")
	isDone(t, outOf(textOf("ab")), "\x00\x02\x61\x62")
	reads(t, "\x00\x00\x00\x00\x01\x02", 0, numOf(258), 0)
	reads(t, "\x00\x02\x61\x62", 2, textOf("ab"), 0)
}

func TestNothingWritten(t *testing.T) {
	o := NewOut()
	isDone(t, o, "")
	isDone(t, o, "")
	if NewOut() == o {
		t.Error("no new one")
	}
}

func TestWrittenBytes(t *testing.T) {
	for n := range 256 {
		isDone(t, outOf(byteOf(n)), string([]byte{byte(n)}))
	}
	for _, n := range []int{-1, 256, -255, -256, 257, 65536, 1 << 32, api.MaxTime, math.MinInt, math.MaxInt} {
		staysRefused(t, outOf(byteOf(n)))
	}
}

func TestWrittenNumbers(t *testing.T) {
	for n, want := range map[int]string{
		0:               "\x00\x00\x00\x00\x00\x00",
		1:               "\x00\x00\x00\x00\x00\x01",
		255:             "\x00\x00\x00\x00\x00\xff",
		256:             "\x00\x00\x00\x00\x01\x00",
		0x010203:        "\x00\x00\x00\x01\x02\x03",
		0x0102030405:    "\x00\x01\x02\x03\x04\x05",
		1 << 32:         "\x00\x01\x00\x00\x00\x00",
		1<<32 - 1:       "\x00\x00\xff\xff\xff\xff",
		1 << 39:         "\x00\x80\x00\x00\x00\x00",
		api.MaxTime - 1: "\x00\xff\xff\xff\xff\xfe",
		api.MaxTime:     "\x00\xff\xff\xff\xff\xff",
	} {
		isDone(t, outOf(numOf(n)), want)
	}
	for k := range 40 {
		isDone(t, outOf(numOf(1<<k)), numOf(1<<k).other())
	}
	for _, n := range []int{-1, api.MaxTime + 1, api.MaxTime + 2, -api.MaxTime, 1<<48 - 1, 1 << 48, 1 << 56, math.MinInt, math.MaxInt} {
		staysRefused(t, outOf(numOf(n)))
	}
}

func TestWrittenStamps(t *testing.T) {
	for _, c := range []struct {
		time, who int
		want      string
	}{
		{0, 0, "\x00\x00\x00\x00\x00\x00\x00"},
		{1, 2, "\x00\x00\x00\x00\x00\x01\x02"},
		{0x0102030405, 6, "\x00\x01\x02\x03\x04\x05\x06"},
		{0, 255, "\x00\x00\x00\x00\x00\x00\xff"},
		{api.MaxTime, 0, "\x00\xff\xff\xff\xff\xff\x00"},
		{api.MaxTime, 255, "\x00\xff\xff\xff\xff\xff\xff"},
	} {
		isDone(t, outOf(stampOf(c.time, c.who)), c.want)
	}
	for _, wrong := range []int{-1, api.MaxTime + 1, 1 << 48, math.MinInt, math.MaxInt} {
		staysRefused(t, outOf(stampOf(wrong, 0)))
		staysRefused(t, outOf(stampOf(wrong, -1)))
	}
	for _, wrong := range []int{-1, 256, 512, 1 << 32, math.MinInt, math.MaxInt} {
		staysRefused(t, outOf(stampOf(0, wrong)))
		staysRefused(t, outOf(stampOf(api.MaxTime, wrong)))
	}
}

func TestWrittenTexts(t *testing.T) {
	for s, want := range map[string]string{
		"": "\x00\x00", "a": "\x00\x01a", "\x00": "\x00\x01\x00", "é": "\x00\x02\xc3\xa9", "\xff\xfe\n": "\x00\x03\xff\xfe\n",
		strings.Repeat("x", 255): "\x00\xff" + strings.Repeat("x", 255),
		strings.Repeat("x", 256): "\x01\x00" + strings.Repeat("x", 256),
		strings.Repeat("x", 258): "\x01\x02" + strings.Repeat("x", 258),
	} {
		isDone(t, outOf(textOf(s)), want)
	}
	// Two bytes tell how many there are: so one of 65534 is the longest that makes no more than MaxText in all.
	isDone(t, outOf(textOfSize(65533)), "\xff\xfd"+strings.Repeat("x", 65533))
	isDone(t, outOf(textOfSize(65534)), "\xff\xfe"+strings.Repeat("x", 65534))
	for _, n := range []int{65535, 65536, 65537, 65536 + 300, 131072, 1 << 24} {
		staysRefused(t, outOf(textOfSize(n)))
	}
}

// sizes are how many bytes a part of each kind has, and one such part.
func sizes() []struct {
	size int
	part part
} {
	return []struct {
		size int
		part part
	}{
		{1, byteOf(7)}, {6, numOf(258)}, {7, stampOf(258, 3)}, {2, textOf("")}, {3, textOf("a")}, {100, textOfSize(98)}, {65536, textOfSize(65534)},
	}
}

func TestJustAsManyBytesAsMayBe(t *testing.T) {
	for _, c := range sizes() {
		for over := -1; over <= 1; over++ {
			// Ahead of the last part stand others, of bytes alone and of one text.
			room := api.MaxText - c.size + over
			if room < 0 {
				continue
			}
			aheads := [][]part{slices.Repeat([]part{byteOf(9)}, room)}
			if room >= 2 && room <= api.MaxText {
				aheads = append(aheads, []part{textOfSize(room - 2)})
			}
			for _, ahead := range aheads {
				o := outOf(ahead...)
				isDone(t, o, others(ahead))
				c.part.write(o)
				if over > 0 {
					staysRefused(t, o)
				} else {
					isDone(t, o, others(ahead)+c.part.other())
				}
			}
		}
	}
}

func TestOneByteMoreByEachKind(t *testing.T) {
	for _, c := range sizes() {
		// As many parts of this kind as there is room for, and the rest bytes.
		l := slices.Repeat([]part{c.part}, api.MaxText/c.size)
		l = append(l, slices.Repeat([]part{byteOf(1)}, api.MaxText%c.size)...)
		for _, behind := range []part{byteOf(1), numOf(1), stampOf(1, 1), textOf(""), textOf("a")} {
			o := outOf(l...)
			isDone(t, o, others(l))
			behind.write(o)
			staysRefused(t, o)
		}
	}
}

func TestWrongBehindOthersAndAhead(t *testing.T) {
	good := []part{byteOf(1), numOf(2), stampOf(3, 4), textOf("five")}
	for _, wrong := range []part{byteOf(-1), byteOf(256), numOf(-1), numOf(api.MaxTime + 1), stampOf(-1, 0), stampOf(0, 256), stampOf(api.MaxTime+1, 0), textOfSize(65536)} {
		for at := range len(good) + 1 {
			o := outOf(good[:at]...)
			isDone(t, o, others(good[:at]))
			wrong.write(o)
			for _, p := range good[at:] {
				p.write(o)
			}
			staysRefused(t, o)
		}
	}
	// Others are not touched by that.
	o, p := NewOut(), NewOut()
	o.Byte(256)
	p.Byte(1)
	isRefused(t, o)
	isDone(t, p, "\x01")
}

func TestDoneTwiceAndPartsBehindIt(t *testing.T) {
	o := NewOut()
	var l []part
	var done []string
	for _, p := range []part{byteOf(1), textOf("ab"), numOf(3), stampOf(4, 5), textOf(""), byteOf(0)} {
		p.write(o)
		l = append(l, p)
		isDone(t, o, others(l))
		isDone(t, o, others(l))
		s, _ := o.Done()
		done = append(done, s)
	}
	for n, s := range done {
		if s != others(l[:n+1]) {
			t.Errorf("what Done answered the %d. time is another text now: %x", n+1, s)
		}
	}
	o.Byte(-1)
	staysRefused(t, o)
}

func TestOutThatNewOutDidNotGive(t *testing.T) {
	var none *Out
	var own Out
	given := outOf(byteOf(1), textOf("ab"))
	copied := *given
	wrong := outOf(byteOf(1), byteOf(-1))
	wrongCopied := *wrong
	for _, o := range []*Out{none, &own, {}, new(Out), &copied, &wrongCopied} {
		staysRefused(t, o)
	}
	isDone(t, given, "\x01\x00\x02ab")
	// A copy that is written to does not lay its bytes where the others' next ones come.
	room := outOf(byteOf(1), byteOf(2), byteOf(3))
	twin := *room
	twin.Byte(4)
	room.Byte(5)
	twin.Byte(6)
	isDone(t, room, "\x01\x02\x03\x05")
	isRefused(t, &twin)
}

// Cd2.

func TestReadBytes(t *testing.T) {
	for n := range 256 {
		reads(t, string([]byte{byte(n)}), 0, byteOf(n), 0)
		reads(t, string([]byte{byte(n), 1, 2}), 0, byteOf(n), 2)
	}
	readsWrong(t, "", aByte, 0, api.ErrShort)
}

func TestReadNumbers(t *testing.T) {
	for s, want := range map[string]int{
		"\x00\x00\x00\x00\x00\x00": 0, "\x00\x00\x00\x00\x00\x01": 1, "\x00\x00\x00\x00\xff\x00": 0xff00, "\x00\x01\x02\x03\x04\x05": 0x0102030405,
		"\x00\x80\x00\x00\x00\x00": 1 << 39, "\x00\xff\xff\xff\xff\xfe": api.MaxTime - 1, "\x00\xff\xff\xff\xff\xff": api.MaxTime,
	} {
		reads(t, s, 0, numOf(want), 0)
		reads(t, s+"\xff", 0, numOf(want), 1)
	}
	for _, s := range []string{"\x01\x00\x00\x00\x00\x00", "\x01\x00\x00\x00\x00\x01", "\x02\x00\x00\x00\x00\x00", "\x80\x00\x00\x00\x00\x00", "\xff\xff\xff\xff\xff\xff"} {
		readsWrong(t, s, aNum, 0, api.ErrForm)
		readsWrong(t, s+"behind", aNum, 0, api.ErrForm)
		// Where a byte is not there it is no number yet, however great it begins.
		for n := range 6 {
			readsWrong(t, s[:n], aNum, 0, api.ErrShort)
		}
	}
	for n := range 6 {
		readsWrong(t, "\x00\x01\x02\x03\x04\x05"[:n], aNum, 0, api.ErrShort)
	}
}

func TestReadStamps(t *testing.T) {
	for s, want := range map[string]part{
		"\x00\x00\x00\x00\x00\x00\x00": stampOf(0, 0), "\x00\x00\x00\x00\x00\x01\x02": stampOf(1, 2), "\x00\x01\x02\x03\x04\x05\x06": stampOf(0x0102030405, 6),
		"\x00\x00\x00\x00\x00\x00\xff": stampOf(0, 255), "\x00\xff\xff\xff\xff\xff\xff": stampOf(api.MaxTime, 255), "\x00\xff\xff\xff\xff\xff\x00": stampOf(api.MaxTime, 0),
	} {
		reads(t, s, 0, want, 0)
		reads(t, s+"\x00\x00", 0, want, 2)
		for n := range 7 {
			readsWrong(t, s[:n], aStamp, 0, api.ErrShort)
		}
	}
	for _, s := range []string{"\x01\x00\x00\x00\x00\x00\x02", "\xff\xff\xff\xff\xff\xff\xff"} {
		readsWrong(t, s, aStamp, 0, api.ErrForm)
		readsWrong(t, s+"behind", aStamp, 0, api.ErrForm)
		// A Time that may not be, and no Who: of both errors the chapter names this one first.
		for n := range 7 {
			readsWrong(t, s[:n], aStamp, 0, api.ErrShort)
		}
	}
}

func TestReadTexts(t *testing.T) {
	long := strings.Repeat("x", 65535)
	for _, c := range []struct {
		s    string
		most int
		want string
		left int
	}{
		{"\x00\x00", 0, "", 0}, {"\x00\x00", 1, "", 0}, {"\x00\x00", math.MaxInt, "", 0}, {"\x00\x00\x00", 0, "", 1},
		{"\x00\x01a", 1, "a", 0}, {"\x00\x01a", 2, "a", 0}, {"\x00\x01ab", 1, "a", 1}, {"\x00\x02ab", 2, "ab", 0}, {"\x00\x02\xff\x00", 9, "\xff\x00", 0},
		{"\x01\x00" + long[:256], 256, long[:256], 0}, {"\x01\x02" + long, 300, long[:258], 65535 - 258},
		// What is read may be longer than what may be written.
		{"\xff\xff" + long, 65535, long, 0}, {"\xff\xff" + long + "yz", 65536, long, 2},
	} {
		reads(t, c.s, c.most, textOf(c.want), c.left)
	}
	for _, most := range []int{0, 1, 2, math.MaxInt} {
		readsWrong(t, "", aText, most, api.ErrShort)
		readsWrong(t, "\x00", aText, most, api.ErrShort)
		readsWrong(t, "\xff", aText, most, api.ErrShort)
	}
	readsWrong(t, "", aText, -1, api.ErrShort)
	readsWrong(t, "\x00", aText, -1, api.ErrShort)
	readsWrong(t, "\x00\x02a", aText, 2, api.ErrShort)
	readsWrong(t, "\x00\x02a", aText, 9, api.ErrShort)
	readsWrong(t, "\x00\x01", aText, 1, api.ErrShort)
	readsWrong(t, "\xff\xff"+long[1:], aText, 65535, api.ErrShort)
}

func TestReadTextsThatAreTooLong(t *testing.T) {
	for _, c := range []struct {
		s    string
		most int
	}{
		{"\x00\x00", -1}, {"\x00\x00", math.MinInt}, {"\x00\x00abc", -1}, {"\x00\x01a", 0}, {"\x00\x01a", -1}, {"\x00\x02ab", 1}, {"\x00\x02ab", math.MinInt}, {"\x01\x00" + strings.Repeat("x", 256), 255},
		// Where its bytes are not there, too.
		{"\x00\x01", 0}, {"\x00\x02a", 1}, {"\x00\x02", 1}, {"\xff\xff", 65534}, {"\xff\xffabc", 3}, {"\x00\x03ab", 2},
	} {
		readsWrong(t, c.s, aText, c.most, api.ErrForm)
	}
	// As many as there are, and one less and more.
	for n := range 300 {
		s := textOfSize(n).other()
		reads(t, s, n, textOfSize(n), 0)
		reads(t, s, n+1, textOfSize(n), 0)
		readsWrong(t, s, aText, n-1, api.ErrForm)
	}
}

func TestOneByteTooFew(t *testing.T) {
	for _, p := range []part{byteOf(1), numOf(1), stampOf(1, 1), textOf(""), textOf("a"), textOfSize(300)} {
		for _, ahead := range [][]part{nil, {byteOf(3)}, {textOf("ahead"), numOf(4)}} {
			s := others(append(slices.Clone(ahead), p))
			i := NewIn(s[:len(s)-1])
			for _, a := range ahead {
				if got := readPart(i, a.kind, 99); got != a {
					t.Errorf("%v, not %v", got, a)
				}
			}
			if got := readPart(i, p.kind, 300); got != zero(p.kind) {
				t.Errorf("%v, one byte too few: %v", p, got)
			}
			isWrong(t, i, api.ErrShort)
		}
	}
}

func TestWhicheverCameFirst(t *testing.T) {
	great := "\x01\x00\x00\x00\x00\x00"
	// A number too great, then bytes that would be good, and none.
	i := NewIn(great + "\x00\x01a" + great)
	i.Num()
	i.Byte()
	isWrong(t, i, api.ErrForm)
	// Too few for a number, though a byte could be read.
	i = NewIn("\x01\x02\x03")
	i.Num()
	isWrong(t, i, api.ErrShort)
	// Too few, then a text of more than most.
	i = NewIn("\x00")
	i.Text(5)
	i.Text(-1)
	isWrong(t, i, api.ErrShort)
	i = NewIn("\x00\x05ab")
	i.Text(1)
	i.Text(5)
	isWrong(t, i, api.ErrForm)
	// Good parts ahead do not matter.
	i = NewIn("\x09\x00\x01a" + great)
	if i.Byte() != 9 || i.Text(1) != "a" || i.Rest() != 6 || i.Num() != 0 {
		t.Error("the parts ahead")
	}
	isWrong(t, i, api.ErrForm)
}

func TestDoneWithBytesLeft(t *testing.T) {
	// That is none of what is kept: what is left may yet be read.
	i := NewIn("\x01\x02\x00\x01a")
	for left := 5; left > 3; left-- {
		if i.Rest() != left || i.Done() != api.ErrForm || i.Done() != api.ErrForm || i.Rest() != left {
			t.Errorf("%d left: %d %d", left, i.Rest(), i.Done())
		}
		if n := i.Byte(); n != 6-left {
			t.Errorf("%d left: %d", left, n)
		}
	}
	if i.Done() != api.ErrForm || i.Text(1) != "a" || i.Rest() != 0 || i.Done() != api.OK || i.Done() != api.OK {
		t.Error("the last part")
	}
	i.Byte()
	isWrong(t, i, api.ErrShort)
	none := NewIn("")
	if none.Rest() != 0 || none.Done() != api.OK || none.Done() != api.OK {
		t.Error("no bytes")
	}
}

func TestInThatNewInDidNotGive(t *testing.T) {
	var none *In
	var own In
	given := NewIn("\x01\x02\x00\x00")
	copied := *given
	wrong := NewIn("")
	wrong.Byte()
	wrongCopied := *wrong
	for _, i := range []*In{none, &own, {}, new(In), &copied, &wrongCopied} {
		isWrong(t, i, api.ErrForm)
	}
	if given.Byte() != 1 || given.Byte() != 2 || given.Rest() != 2 || given.Text(0) != "" || given.Done() != api.OK {
		t.Error("the one that was copied")
	}
}

// Cd3.

// drawnPart is one of a kind, often at an edge of what may be.
func drawnPart(draw *rand.Rand, kind int) part {
	pick := func(l ...int) int { return l[draw.Intn(len(l))] }
	time := pick(0, 1, 255, 256, api.MaxTime, api.MaxTime-1, draw.Intn(1000), int(draw.Int63n(api.MaxTime+1)))
	who := pick(0, 1, 6, 255, draw.Intn(256))
	switch kind {
	case aByte:
		return byteOf(who)
	case aNum:
		return numOf(time)
	case aStamp:
		return stampOf(time, who)
	}
	b := make([]byte, pick(0, 0, 1, 2, 6, 7, draw.Intn(20), draw.Intn(400)))
	draw.Read(b)
	return textOf(string(b))
}

func drawnParts(draw *rand.Rand, most int) []part {
	l := make([]part, draw.Intn(most+1))
	for i := range l {
		l[i] = drawnPart(draw, draw.Intn(kinds))
	}
	return l
}

// likeParts are others of the same kinds, of which many are the same.
func likeParts(draw *rand.Rand, l []part) []part {
	like := slices.Clone(l)
	for i := range like {
		if draw.Intn(4) == 0 {
			like[i] = drawnPart(draw, like[i].kind)
		}
	}
	return like
}

func TestWhatWasWrittenIsRead(t *testing.T) {
	draw := rand.New(rand.NewSource(91))
	for range 3000 {
		l := drawnParts(draw, 30)
		o := outOf(l...)
		isDone(t, o, others(l))
		s, _ := o.Done()
		i := NewIn(s)
		left := len(s)
		for n, p := range l {
			want := api.OK
			if left > 0 {
				want = api.ErrForm
			}
			if i.Rest() != left || i.Done() != want {
				t.Fatalf("ahead of the %d. part: Rest %d, not %d, Done %d", n+1, i.Rest(), left, i.Done())
			}
			if got := readPart(i, p.kind, len(p.text)+draw.Intn(2)); got != p {
				t.Fatalf("the %d. part: %v, not %v", n+1, got, p)
			}
			left -= len(p.other())
			if i.Rest() != left {
				t.Fatalf("behind the %d. part: Rest %d, not %d", n+1, i.Rest(), left)
			}
		}
		if i.Rest() != 0 || i.Done() != api.OK {
			t.Fatalf("behind all: %d %d", i.Rest(), i.Done())
		}
	}
}

func TestPartsThatAreJustAllThatMayBeAreRead(t *testing.T) {
	for _, c := range sizes() {
		l := slices.Repeat([]part{c.part}, api.MaxText/c.size)
		l = append(l, slices.Repeat([]part{byteOf(1)}, api.MaxText%c.size)...)
		s, _ := outOf(l...).Done()
		i := NewIn(s)
		for n, p := range l {
			if got := readPart(i, p.kind, api.MaxText); got != p {
				t.Fatalf("the %d. part: %v", n+1, got)
			}
		}
		if len(s) != api.MaxText || i.Done() != api.OK {
			t.Errorf("%d bytes, Done %d", len(s), i.Done())
		}
	}
}

func TestWhatIsCutIsShort(t *testing.T) {
	draw := rand.New(rand.NewSource(92))
	for range 300 {
		l := drawnParts(draw, 8)
		s, _ := outOf(l...).Done()
		for n := range len(s) {
			i := NewIn(s[:n])
			end := 0
			for _, p := range l {
				end += len(p.other())
				want := p
				if end > n {
					want = zero(p.kind)
				}
				if got := readPart(i, p.kind, api.MaxText); got != want {
					t.Fatalf("%d of %d bytes: %v, not %v", n, len(s), got, want)
				}
			}
			if e := i.Done(); e != api.ErrShort || i.Rest() != 0 {
				t.Fatalf("%d of %d bytes: %d, Rest %d", n, len(s), e, i.Rest())
			}
		}
	}
}

func TestNothingBeginsAnotherOfTheSameParts(t *testing.T) {
	draw := rand.New(rand.NewSource(93))
	for range 20000 {
		l := drawnParts(draw, 6)
		like := likeParts(draw, l)
		a, _ := outOf(l...).Done()
		b, _ := outOf(like...).Done()
		same := slices.Equal(l, like)
		if strings.HasPrefix(a, b) != same || strings.HasPrefix(b, a) != same {
			t.Fatalf("%v and %v: %x and %x", l, like, a, b)
		}
	}
}

// otherRead is what is read of bytes by kinds, as the chapter says it, told by another way: the parts, how many bytes are left, and what Done tells.
func otherRead(s string, kindsOf, mosts []int) ([]part, int, api.Errno) {
	var l []part
	wrong := api.OK
	for n, kind := range kindsOf {
		p := zero(kind)
		size := []int{1, 6, 7, 2}[kind]
		switch {
		case wrong != api.OK:
		case len(s) < size:
			wrong = api.ErrShort
		case (kind == aNum || kind == aStamp) && s[0] > 0:
			wrong = api.ErrForm
		case kind == aText && int(binary.BigEndian.Uint16([]byte(s))) > mosts[n]:
			wrong = api.ErrForm
		case kind == aText && int(binary.BigEndian.Uint16([]byte(s))) > len(s)-2:
			wrong = api.ErrShort
		case kind == aByte:
			p.n = int(s[0])
		case kind == aText:
			size += int(binary.BigEndian.Uint16([]byte(s)))
			p.text = s[2:size]
		default:
			time := int(binary.BigEndian.Uint64([]byte("\x00\x00" + s[:6])))
			if p.n = time; kind == aStamp {
				p = stampOf(time, int(s[6]))
			}
		}
		if wrong == api.OK {
			s = s[size:]
		}
		l = append(l, p)
	}
	if wrong != api.OK {
		return l, 0, wrong
	}
	if s != "" {
		wrong = api.ErrForm
	}
	return l, len(s), wrong
}

func TestDrawnBytesAreReadAsOtherwise(t *testing.T) {
	draw := rand.New(rand.NewSource(94))
	told := map[api.Errno]int{}
	for range 30000 {
		b := make([]byte, draw.Intn(60))
		for i := range b {
			// Mostly noughts and small ones, so that numbers and lengths are often good.
			b[i] = []byte{0, 0, 0, 0, 1, 2, 5, byte(draw.Intn(256))}[draw.Intn(8)]
		}
		s := string(b)
		kindsOf, mosts := make([]int, draw.Intn(8)), make([]int, 8)
		for n := range kindsOf {
			kindsOf[n], mosts[n] = draw.Intn(kinds), []int{-1, 0, 1, 5, 300, 65535}[draw.Intn(6)]
		}
		want, left, e := otherRead(s, kindsOf, mosts)
		i := NewIn(s)
		for n, kind := range kindsOf {
			if got := readPart(i, kind, mosts[n]); got != want[n] {
				t.Fatalf("%x by %v, %v: the %d. part %v, not %v", s, kindsOf, mosts, n+1, got, want[n])
			}
		}
		if i.Rest() != left || i.Done() != e {
			t.Fatalf("%x by %v, %v: Rest %d, not %d, Done %d, not %d", s, kindsOf, mosts, i.Rest(), left, i.Done(), e)
		}
		told[e]++
		if e == api.OK {
			// What is read is written as the same bytes: there are no two ways to write a thing.
			isDone(t, outOf(want...), s)
		}
	}
	if len(told) != 3 {
		t.Errorf("the bytes that were drawn tell too little: %v", told)
	}
}

// R1, R3 and R4.

func TestArgumentsOfAllKindsEnd(t *testing.T) {
	wild := []int{math.MinInt, math.MinInt + 1, -1 << 40, -1, 0, 1, 255, 256, 1 << 16, 1 << 40, 1 << 48, math.MaxInt - 1, math.MaxInt}
	for _, n := range wild {
		for _, m := range wild {
			o := outOf(stampOf(n, m))
			if s, e := o.Done(); (e == api.OK) != (n >= 0 && n <= api.MaxTime && m >= 0 && m <= 255) || e != api.OK && (e != api.ErrArg || s != "") {
				t.Errorf("a stamp of %d and %d: %x %d", n, m, s, e)
			}
		}
		for _, s := range []string{"", "\x00", "\x00\x00", "\x00\x01", "\x00\x01a", "\xff\xff\xff\xff\xff\xff\xff"} {
			NewIn(s).Text(n)
		}
	}
}

func TestTextsStandAsTheyWere(t *testing.T) {
	room := []byte("abcdefgh")
	s := string(room)
	o := NewOut()
	o.Text(s[:3])
	o.Byte(1)
	o.Text(s[3:5])
	isDone(t, o, "\x00\x03abc\x01\x00\x02de")
	if s != "abcdefgh" {
		t.Errorf("%q", s)
	}
	// Pieces of one longer text: nothing is read behind their ends.
	all := "\x00\x03abcd"
	readsWrong(t, all[:4], aText, 9, api.ErrShort)
	reads(t, all[:5], 9, textOf("abc"), 0)
	if all != "\x00\x03abcd" {
		t.Errorf("%q", all)
	}
}

func TestAnswersHangOnTheObjectsOwnCallsAlone(t *testing.T) {
	draw := rand.New(rand.NewSource(95))
	// Many at once, their parts written and read in turns.
	outs, ins := make([]*Out, 20), make([]*In, 20)
	lists := make([][]part, 20)
	for n := range outs {
		outs[n] = NewOut()
	}
	for range 1000 {
		n := draw.Intn(20)
		p := drawnPart(draw, draw.Intn(kinds))
		p.write(outs[n])
		lists[n] = append(lists[n], p)
	}
	for n, o := range outs {
		isDone(t, o, others(lists[n]))
		ins[n] = NewIn(others(lists[n]))
	}
	for at := range 100 {
		for n, i := range ins {
			if at < len(lists[n]) {
				if p := readPart(i, lists[n][at].kind, api.MaxText); p != lists[n][at] {
					t.Fatalf("the %d. part of the %d. one: %v", at+1, n+1, p)
				}
			}
		}
	}
	for n, i := range ins {
		if i.Done() != api.OK {
			t.Errorf("the %d. one: %d", n+1, i.Done())
		}
	}
}
