package desk_test

import (
	"bytes"
	"fmt"
	"strings"
	"testing"

	"casemate/api"
	"casemate/desk"
	"casemate/req"
)

// P33.1: a new desk: a disk of 1000 sectors that was formatted, and mounted once.
func TestNew(t *testing.T) {
	b := fresh(t)
	if b.d.Disk().Size() != 1000 || b.d.Manager() == nil {
		t.Fatalf("a disk of %d sectors, or no manager", b.d.Disk().Size())
	}
	b.wantTwin(t)
	b.wantLine(t, sessions(), "ok")
	b.wantLine(t, state(), "ok 1 1 21")
	b.wantLine(t, books(), "ok 1")
	b.wantLine(t, waits(1), "ok 0")
	b.wantLine(t, look(1), "err 51")
	b.wantLine(t, next(), "err 4")
	b.wantLine(t, pick(1), "err 4")
	other, e := desk.New()
	wantCode(t, "New", e, api.OK)
	if other.Disk() == b.d.Disk() || other.Manager() == b.d.Manager() {
		t.Error("two desks have one disk, or one manager")
	}
}

// P33.1: Manager and Disk are those that the lines play on.
func TestManagerAndDisk(t *testing.T) {
	b := fresh(t)
	add, _ := req.Encode(addOf(3, 1, 2))
	ticket, e := b.d.Manager().Submit(add)
	if ticket != 1 || e != api.OK {
		t.Fatalf("Submit: %d, %v", ticket, e)
	}
	if s, e := b.d.Line("pick 3"); s != "ok 1 000000000000" || e != api.OK {
		t.Fatalf("pick 3: %q, %v", s, e)
	}
	wantCode(t, "Tamper", b.d.Disk().Tamper(0, make([]byte, 512)), api.OK)
	wantCode(t, "Tamper", b.d.Disk().Tamper(1, make([]byte, 512)), api.OK)
	if s, e := b.d.Line("crash -"); s != "err 40" || e != api.OK {
		t.Fatalf("crash -: %q, %v", s, e)
	}
}

// P33.1, P1: each call of no desk, and of one that no call made.
func TestNone(t *testing.T) {
	for _, d := range []*desk.Desk{nil, {}} {
		for _, s := range []string{"", "next", "pick 1", "no line", strings.Repeat("x", 16385), "crash -", "sessions"} {
			if told, e := d.Line(s); told != "" || e != api.ErrNil {
				t.Errorf("Line(%.20q): %q, %v", s, told, e)
			}
		}
		if d.Manager() != nil || d.Disk() != nil {
			t.Error("there is a manager, or a disk")
		}
	}
}

// the first words, and how many words stand behind them.
func firsts() map[string][]string {
	return map[string][]string{
		"submit": {"52"}, "pick": {"1"}, "next": {}, "crash": {"-"}, "fail": {"9"}, "tamper": {"900", "7"},
		"sessions": {}, "waits": {"1"}, "look": {"1"}, "books": {}, "state": {},
	}
}

// noLines is what is no line.
func noLines() []string {
	l := []string{"", " ", "  ", "\n", "\t", "\x00", "ok", "err 4", "wait", "bad", "-", "1", "52", "nextt", "nex", "n", "sessionss", "session", "statee", "pick1", "submit52", "help", "#", "é", "\xff", strings.Repeat(" ", 16384), strings.Repeat("x", 16384)}
	for first, words := range firsts() {
		line := strings.Join(append([]string{first}, words...), " ")
		l = append(l, " "+line, line+" ", line+"\n", line+"\r", line+"\x00", line+"\x7f", "\t"+line, line+" 1", line+" -", line+" x", first+first)
		l = append(l, strings.ToUpper(line[:1])+line[1:], strings.ToUpper(first)+line[len(first):], first[1:]+line[len(first):], first[:len(first)-1]+line[len(first):], "x"+line)
		if len(words) == 0 {
			continue
		}
		l = append(l, first, first+" ", first+"  "+strings.Join(words, " "), strings.Join(append([]string{first}, words...), "\t"), first+"\xa0"+strings.Join(words, " "))
		if words[len(words)-1] == "52" || words[len(words)-1] == "-" {
			for _, w := range []string{"5", "520", "--", "-52", "52-", "0x52", "5 2", "5G", "g5", "AB", "aB", "Ab", "5:", "/5", "5`", "@5", "+52", ".", "ok", "52 -", "- 52", "5\x00", "éé"} {
				l = append(l, first+" "+w)
			}
			continue
		}
		for _, w := range noNumbers() {
			l = append(l, first+" "+strings.Join(append(words[:len(words)-1:len(words)-1], w), " "))
			if len(words) == 2 {
				l = append(l, first+" "+w+" "+words[1])
			}
		}
	}
	return append(l, "tamper 900", "tamper 900  7", "tamper  900 7", "tamper 900 7 7", "pick 09", "pick 1 1")
}

// noNumbers is words that are no numbers.
func noNumbers() []string {
	return []string{"", "-", "-1", "+1", "-0", "00", "01", "007", "0x1", "1e1", "1.0", "1_0", "a", "1a", "a1", "1-", "١", "65536", "65537", "99999", "100000", "065535", "131071", "4294967296", "4294967297", "18446744073709551616", "18446744073709551617", strings.Repeat("9", 500), strings.Repeat("0", 500)}
}

// P33.1, P33.5: what is no line is told, and changes nothing.
func TestNoLines(t *testing.T) {
	b := peopled(t)
	b.do(t, submit(t, readOf(1, 4, 0, 8)))
	b.do(t, pick(1))
	b.do(t, submit(t, plainOf(2, req.Status)))
	for i, s := range noLines() {
		if told, e := b.d.Line(s); told != "" || e != api.ErrLine {
			t.Fatalf("Line(%.40q): %q, %v", s, told, e)
		}
		if i%40 == 0 {
			b.wantAll(t)
		}
	}
	b.wantTwin(t)
	b.do(t, next())
	b.do(t, pick(1))
	b.do(t, crash([]byte{255}))
	b.wantTwin(t)
}

// P33.1: other bytes than 33 to 126 stand in no line, wherever they are put.
func TestBytes(t *testing.T) {
	b := fresh(t)
	for c := range 256 {
		for _, line := range []string{"next", "pick 1", "tamper 900 7", "submit 52"} {
			for at := range len(line) + 1 {
				s := line[:at] + string([]byte{byte(c)}) + line[at:]
				told, e := b.d.Line(s)
				is := (line == "pick 1" && at >= 5 && c >= '0' && c <= '9' && !(at == 5 && c == '0')) ||
					(line[0] == 't' && (at >= 7 && at <= 10 || at >= 11) && c >= '0' && c <= '9' && !(c == '0' && (at == 7 || at == 11)))
				if is != (e == api.OK) || !is && (e != api.ErrLine || told != "") {
					t.Fatalf("Line(%q): %q, %v", s, told, e)
				}
			}
		}
	}
}

// P33.1: lines of 16384 bytes, and of one more, whatever they say.
func TestLong(t *testing.T) {
	b := fresh(t)
	b.do(t, crash(bytes.Repeat([]byte{170}, 8189)))
	if s := "crash " + strings.Repeat("aa", 8189); len(s) != 16384 {
		t.Fatalf("%d bytes", len(s))
	}
	b.do(t, submitBytes(bytes.Repeat([]byte{82}, 8188)))
	for _, s := range []string{"crash " + strings.Repeat("a", 16379), "submit " + strings.Repeat("52", 8189), strings.Repeat("x", 16385), strings.Repeat(" ", 16385), strings.Repeat("x", 1<<20), "next" + strings.Repeat(" ", 16381)} {
		if told, e := b.d.Line(s); told != "" || e != api.ErrLong {
			t.Errorf("Line of %d bytes: %q, %v", len(s), told, e)
		}
	}
	b.wantTwin(t)
}

// P33.1: numbers from 0 to 65535, and each word that is one.
func TestNumbers(t *testing.T) {
	b := fresh(t)
	for _, n := range []int{0, 1, 7, 8, 9, 10, 11, 99, 100, 255, 256, 511, 512, 999, 1000, 1001, 9999, 10000, 65534, 65535} {
		b.do(t, pick(n))
		b.do(t, waits(n))
		b.do(t, look(n))
		b.do(t, tamper(n, n))
	}
	b.do(t, fail(65535))
	b.wantTwin(t)
	b.wantLine(t, tamper(65535, 65535), "err 31")
	b.wantLine(t, tamper(1000, 7), "err 31")
	b.wantLine(t, tamper(999, 7), "ok")
	b.wantLine(t, pick(0), "err 1")
	b.wantLine(t, pick(9), "err 1")
	b.wantLine(t, look(0), "err 51")
	b.wantLine(t, look(9), "err 51")
	b.wantLine(t, waits(65535), "ok 0")
}

// P33.1: a sector is turned to 512 bytes of a number modulo 256.
func TestTamper(t *testing.T) {
	b := fresh(t)
	for i, m := range []int{0, 1, 127, 128, 255, 256, 257, 511, 512, 65535} {
		b.wantLine(t, tamper(300+i, m), "ok")
		got, e := b.d.Disk().Sure(uint32(300 + i))
		if e != api.OK || !bytes.Equal(got, bytes.Repeat([]byte{byte(m)}, 512)) {
			t.Errorf("tamper %d %d: %v", 300+i, m, got[:3])
		}
	}
	b.wantTwin(t)
}

// P33.1: what each line tells of a request: the ticket; that it waits, while its steps are done; and the reply's bytes.
func TestRequests(t *testing.T) {
	b := fresh(t)
	b.wantLine(t, submit(t, addOf(1, 3, 9)), "ok 1")
	b.wantLine(t, waits(1), "ok 1")
	b.wantLine(t, submit(t, openOf(1)), "ok 2")
	b.wantLine(t, waits(1), "ok 2")
	b.wantLine(t, pick(2), "err 4")
	b.wantLine(t, pick(1), "ok 1 000000000000")
	b.wantLine(t, next(), "ok 2 000000000001")
	b.wantLine(t, sessions(), "ok 1")
	b.wantLine(t, look(1), "ok 0 0 0")
	b.wantLine(t, submit(t, createOf(1, 4, 20)), "ok 3")
	b.wantLine(t, submit(t, writeOf(1, 4, 18, 3, 5)), "ok 4")
	b.wantLine(t, submit(t, readOf(1, 4, 18, 2)), "ok 5")
	for _, want := range []string{"ok 3 000000000000", "ok 4 wait", "ok 4 wait", "ok 4 003e00000002", "ok 5 wait", "ok 5 000000000002" + strings.Repeat("0507", 256) + strings.Repeat("0607", 256)} {
		b.wantLine(t, pick(1), want)
	}
	b.wantLine(t, look(1), "ok 1 2 0")
	b.wantLine(t, state(), fmt.Sprint("ok 2 1 ", b.x.d.Calls()))
	b.wantLine(t, submit(t, plainOf(1, req.Commit)), "ok 6")
	b.wantLine(t, next(), "ok 6 000000000000")
	b.wantLine(t, books(), "ok 1")
	b.wantTwin(t)
	for id := 2; id <= 8; id++ {
		b.ended(t, id, addOf(id, 1, 2))
		b.ended(t, id, openOf(id))
	}
	b.wantLine(t, sessions(), "ok 1 2 3 4 5 6 7 8")
	b.ended(t, 3, plainOf(3, req.Close))
	b.wantLine(t, sessions(), "ok 1 2 4 5 6 7 8")
	b.wantTwin(t)
}

// P33.1: submit with each of its errors.
func TestSubmitErrors(t *testing.T) {
	b := peopled(t)
	b.wantLine(t, submitBytes(nil), "err 70")
	b.wantLine(t, submitBytes([]byte{82}), "err 70")
	b.wantLine(t, submitBytes([]byte{82, 10, 0, 1, 0}), "err 70")
	b.wantLine(t, submit(t, plainOf(9, req.Commit)), "err 4")
	b.wantLine(t, submit(t, openOf(0)), "err 51")
	b.wantLine(t, submit(t, openOf(9)), "err 51")
	for range 8 {
		b.do(t, submit(t, plainOf(1, req.Commit)))
	}
	b.wantLine(t, submit(t, plainOf(1, req.Commit)), "err 71")
	b.wantLine(t, waits(1), "ok 8")
	b.wantTwin(t)
}

// P33.1: crashes that keep none, some and all of what waits, in as many bytes as there are, and in fewer.
func TestCrash(t *testing.T) {
	for _, keep := range [][]byte{nil, {0}, {1}, {85, 85}, {255}, bytes.Repeat([]byte{255}, 9), bytes.Repeat([]byte{171}, 9)} {
		b := peopled(t)
		if b.d.Disk().Waits() == 0 {
			t.Fatal("nothing waits")
		}
		b.do(t, submit(t, writeOf(1, 4, 0, 4, 60)))
		b.do(t, next())
		b.wantLine(t, look(1), "ok 1 6 0")
		b.wantLine(t, crash(keep), "ok")
		b.wantTwin(t)
		b.wantLine(t, sessions(), "ok")
		b.wantLine(t, waits(1), "ok 0")
		b.wantLine(t, next(), "err 4")
		b.wantLine(t, look(1), "ok 1 3 0")
		b.wantLine(t, books(), "ok 1")
		b.ended(t, 1, openOf(1))
		b.wantLine(t, sessions(), "ok 3")
		b.ended(t, 1, readOf(3, 4, 0, 8))
		b.wantTwin(t)
	}
}

// P33.1: fail: so many calls more change something, then replies tell that the disk is down, till a crash.
func TestFail(t *testing.T) {
	for calls := range 14 {
		b := peopled(t)
		b.wantLine(t, fail(calls), "ok")
		b.ended(t, 1, writeOf(1, 4, 0, 2, 70))
		b.ended(t, 1, plainOf(1, req.Commit))
		b.ended(t, 1, readOf(1, 4, 0, 8))
		b.wantAll(t)
		if calls == 0 {
			b.wantLine(t, look(1), "err 30")
			b.wantLine(t, fail(3), "ok")
			b.wantLine(t, tamper(1000, 0), "err 31")
			b.wantLine(t, tamper(998, 0), "ok")
			b.wantLine(t, submit(t, readOf(1, 4, 0, 8)), "ok 12")
			b.wantLine(t, next(), "ok 12 001e00000000")
		}
		b.wantLine(t, crash([]byte{byte(calls * 37)}), "ok")
		b.wantTwin(t)
	}
}

// P33.1: each line where the mount behind a crash fails, and once it is mounted again.
func TestMountFails(t *testing.T) {
	b := peopled(t)
	var heads [][]byte
	for s := range uint32(2) {
		head, e := b.d.Disk().Sure(s)
		wantCode(t, "Sure", e, api.OK)
		heads = append(heads, head)
		b.wantLine(t, tamper(int(s), 77), "ok")
	}
	b.do(t, submit(t, plainOf(1, req.Commit)))
	for range 2 {
		b.wantLine(t, crash(nil), "err 40")
		for range 2 {
			b.wantLine(t, submitBytes(nil), "err 30")
			b.wantLine(t, submit(t, plainOf(1, req.Commit)), "err 30")
			b.wantLine(t, pick(1), "err 30")
			b.wantLine(t, pick(9), "err 30")
			b.wantLine(t, next(), "err 30")
			b.wantLine(t, sessions(), "ok")
			b.wantLine(t, waits(1), "ok 0")
			b.wantLine(t, look(1), "err 6")
			b.wantLine(t, look(9), "err 6")
			b.wantLine(t, books(), "err 6")
			b.wantLine(t, state(), fmt.Sprint("ok 0 0 ", b.x.d.Calls()))
			b.wantLine(t, tamper(900, 5), "ok")
			b.wantLine(t, fail(65535), "ok")
		}
		b.wantAll(t)
	}
	b.wantLine(t, fail(0), "ok")
	for s, head := range heads {
		wantCode(t, "Tamper", b.d.Disk().Tamper(uint32(s), head), api.OK)
		wantCode(t, "Tamper", b.x.d.Tamper(uint32(s), head), api.OK)
	}
	b.wantLine(t, next(), "err 30")
	b.wantLine(t, crash(nil), "ok")
	b.wantLine(t, look(1), "ok 1 3 0")
	b.wantLine(t, next(), "err 4")
	b.wantTwin(t)
}

// P33.1: look tells how many blocks are bad.
func TestLookBad(t *testing.T) {
	b := peopled(t)
	b.wantLine(t, look(1), "ok 1 5 0")
	for i, extent := range []int{0, 1, 2, 3, 4, 5} {
		b.wantLine(t, tamper(1000-245+extent, 9), "ok")
		b.wantLine(t, look(1), fmt.Sprint("ok 1 5 ", min(i+1, 5)))
	}
	b.wantLine(t, look(2), "ok 0 0 0")
	b.wantLine(t, books(), "ok 1")
	b.wantTwin(t)
}
