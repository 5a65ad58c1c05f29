package desk_test

import (
	"bytes"
	"fmt"
	"math/rand/v2"
	"strings"
	"testing"

	"casemate/api"
	"casemate/desk"
	"casemate/req"
)

// wantRun fails if a script tells anything else.
func wantRun(t *testing.T, s, want string) {
	t.Helper()
	if got, e := desk.Run(s); got != want || e != api.OK {
		t.Fatalf("Run(%.60q): %.200q, %v, want %.200q", s, got, e, want)
	}
}

// P33.2: scripts that are empty, of one line, and of more, with and without a byte 10 at their end.
func TestRun(t *testing.T) {
	for s, want := range map[string]string{
		"":                            "",
		"\n":                          "1 bad\n",
		"\n\n\n":                      "1 bad\n2 bad\n3 bad\n",
		"sessions":                    "1 ok\n",
		"sessions\n":                  "1 ok\n",
		"sessions\n\n":                "1 ok\n2 bad\n",
		"\nsessions":                  "1 bad\n2 ok\n",
		" ":                           "1 bad\n",
		" \n ":                        "1 bad\n2 bad\n",
		"sessions\r\npick 1":          "1 bad\n2 err 4\n",
		"pick 1\npick 09\npick 9":     "1 err 4\n2 bad\n3 err 1\n",
		"pick 1\n\n\nstate\nwaits 99": "1 err 4\n2 bad\n3 bad\n4 ok 1 1 21\n5 ok 0\n",
		"pick 1 pick 2":               "1 bad\n",
		"x\ny\nz":                     "1 bad\n2 bad\n3 bad\n",
	} {
		wantRun(t, s, want)
	}
}

// numbered is what a script of as many lines, each of which tells one thing, tells.
func numbered(lines int, tells string) string {
	var s strings.Builder
	for n := 1; n <= lines; n++ {
		fmt.Fprintf(&s, "%d %s\n", n, tells)
	}
	return s.String()
}

// P33.2: scripts of as many lines as may be, and of one more.
func TestRunLines(t *testing.T) {
	wantRun(t, strings.Repeat("\n", 512), numbered(512, "bad"))
	wantRun(t, strings.Repeat("waits 3\n", 512), numbered(512, "ok 0"))
	wantRun(t, strings.Repeat("waits 3\n", 511)+"waits 3", numbered(512, "ok 0"))
	for _, s := range []string{strings.Repeat("\n", 513), strings.Repeat("\n", 512) + "x", strings.Repeat("waits 3\n", 513), strings.Repeat("waits 3\n", 512) + " ", strings.Repeat("\n", 65536), strings.Repeat("x\n", 5000)} {
		if got, e := desk.Run(s); got != "" || e != api.ErrLong {
			t.Errorf("Run of %d lines: %.60q, %v", strings.Count(s, "\n"), got, e)
		}
	}
}

// P33.2: scripts of as many bytes as may be, and of one more; lines that are too long are bad, and those about them are played.
func TestRunLong(t *testing.T) {
	wantRun(t, strings.Repeat("x", 65536), "1 bad\n")
	wantRun(t, strings.Repeat("x", 65535)+"\n", "1 bad\n")
	longest, tooLong := "crash "+strings.Repeat("00", 8189), "crash "+strings.Repeat("00", 8190)
	wantRun(t, strings.Join([]string{"state", tooLong, "state", longest, "state", tooLong}, "\n"), "1 ok 1 1 21\n2 bad\n3 ok 1 1 21\n4 ok\n5 ok 1 2 22\n6 bad\n")
	full := strings.Repeat("waits 1\n", 100)
	full += "crash " + strings.Repeat("0", 16378) + "\n"
	full += strings.Repeat("x", 65536-len(full))
	wantRun(t, full, numbered(100, "ok 0")+"101 ok\n102 bad\n")
	for _, s := range []string{full + "x", full + "\n", strings.Repeat("x", 65537), strings.Repeat(" ", 1<<20), "sessions\n" + strings.Repeat("x", 65536)} {
		if got, e := desk.Run(s); got != "" || e != api.ErrLong {
			t.Errorf("Run of %d bytes: %.60q, %v", len(s), got, e)
		}
	}
}

// P33.1, P33.2: the examples of the document, of one desk.
func TestExamples(t *testing.T) {
	wantRun(t, `sessions
pick 1
submit 520a0003
submit 521002
pick 2
submit 52
waits 2
waits 99
look 1
books
tamper 1000 7
tamper 999 7
crash -
next
submit 520f0200010002
next
pick 9
pick 09
`, `1 ok
2 err 4
3 err 4
4 ok 1
5 ok 1 003300000000
6 err 70
7 ok 0
8 ok 0
9 err 51
10 ok 1
11 err 31
12 ok
13 ok
14 err 4
15 ok 2
16 ok 2 003300000000
17 err 1
18 bad
`)
}

// life is a desk that is asked things by chance.
type life struct {
	*bed
	t      *testing.T
	chance *rand.Rand
	told   map[string]int // how often each two first words were told
}

// request is some request, of small numbers.
func (l *life) request() req.Request {
	c := l.chance
	s := c.IntN(5)
	if open := l.x.m.Sessions(); len(open) > 0 && c.IntN(9) > 0 {
		s = open[c.IntN(len(open))]
	}
	id, n := 1+c.IntN(3), c.IntN(4)
	switch c.IntN(14) {
	case 0, 1:
		return openOf(id)
	case 2:
		return addOf(id, 3, 3+c.IntN(30))
	case 3, 4:
		return createOf(s, n, c.IntN(14))
	case 5, 6, 7, 8:
		return writeOf(s, n, c.IntN(8), 1+c.IntN(3), c.IntN(200))
	case 9, 10:
		return readOf(s, n, c.IntN(8), 1+c.IntN(3))
	case 11:
		return req.Request{Kind: req.Snapshot, Session: s, Volume: n, To: c.IntN(4)}
	case 12:
		return plainOf(s, []int{req.Close, req.Abort, req.Status}[c.IntN(3)])
	}
	return plainOf(s, req.Commit)
}

// command is some line.
func (l *life) command() command {
	c := l.chance
	switch kind := c.IntN(100); {
	case kind < 40:
		return submit(l.t, l.request())
	case kind < 41:
		return submitBytes([]byte{82, byte(c.IntN(20)), 0, 1}[:c.IntN(5)])
	case kind < 60:
		return pick(c.IntN(5))
	case kind < 80:
		return next()
	case kind < 81:
		return crash([]byte{byte(c.IntN(256)), byte(c.IntN(256))}[:c.IntN(3)])
	case kind < 82:
		return fail(c.IntN(40))
	case kind < 84:
		from := []int{0, 18, 100, 755, 755, 990}[c.IntN(6)] // heads, nodes, blocks, and what there is not
		return tamper(from+c.IntN(20), c.IntN(600))
	case kind < 87:
		return sessions()
	case kind < 90:
		return waits(c.IntN(5))
	case kind < 94:
		return look(c.IntN(4))
	case kind < 97:
		return books()
	}
	return state()
}

// play plays some line, and what the twin tells, too.
func (l *life) play() (string, string) {
	l.t.Helper()
	c := l.command()
	if l.d.Disk().Down() && l.chance.IntN(4) == 0 {
		c = crash([]byte{90})
	}
	return l.tell(c)
}

// tell plays a line.
func (l *life) tell(c command) (string, string) {
	l.t.Helper()
	told := l.do(l.t, c)
	first, _, _ := strings.Cut(c.line, " ")
	l.told[first+" "+told[:2]]++
	if strings.HasSuffix(told, " wait") {
		l.told["wait"]++
	}
	return c.line, told
}

// P33.3, P33.4, P33.5, P3: many lines by chance: a desk tells what the manager, the disk and the looks at them tell; so does a script of these lines; one that has no lines between tells the same of the others; and so does one of their beginning alone.
func TestLife(t *testing.T) {
	t.Parallel()
	told := map[string]int{}
	for seed := range uint64(60) {
		l := &life{fresh(t), t, rand.New(rand.NewPCG(seed, 33)), told}
		var script, want, mixed, wantMixed strings.Builder
		none, between := noLines(), 0
		beginning, wantBeginning := "", ""
		begin := []command{submit(t, addOf(1, 3, 30)), next(), submit(t, openOf(1)), next(), submit(t, createOf(1, 1, 9)), next()}
		for n := 1; n <= 200 && script.Len() < 40000 && mixed.Len() < 50000; n++ {
			var line, tells string
			if n <= len(begin) {
				line, tells = l.tell(begin[n-1])
			} else {
				line, tells = l.play()
			}
			script.WriteString(line + "\n")
			fmt.Fprintf(&want, "%d %s\n", n, tells)
			if s := none[l.chance.IntN(len(none))]; len(s) < 100 && !strings.Contains(s, "\n") {
				between++
				mixed.WriteString(s + "\n")
				fmt.Fprintf(&wantMixed, "%d bad\n", n+between-1)
			}
			mixed.WriteString(line + "\n")
			fmt.Fprintf(&wantMixed, "%d %s\n", n+between, tells)
			if n == 60 {
				beginning, wantBeginning = script.String(), want.String()
			}
		}
		l.wantTwin(t)
		wantRun(t, script.String(), want.String())
		wantRun(t, strings.TrimSuffix(script.String(), "\n"), want.String())
		wantRun(t, mixed.String(), wantMixed.String())
		wantRun(t, beginning, wantBeginning)
		wantRun(t, beginning+"state x\n", wantBeginning+"61 bad\n")
	}
	for first := range firsts() {
		for _, tells := range []string{" ok", " er"} {
			is := told[first+tells] >= 3
			never := first+tells == "fail er" || first+tells == "sessions er" || first+tells == "waits er" || first+tells == "state er" || first+tells == "books er"
			if !is && !never {
				t.Errorf("%s was told %d times", first+tells, told[first+tells])
			}
		}
	}
	if told["wait"] < 20 {
		t.Errorf("wait was told %d times", told["wait"])
	}
}

// P33.4: two scripts that part behind a beginning tell the same of it.
func TestBeginning(t *testing.T) {
	add, e := req.Encode(addOf(1, 3, 9))
	wantCode(t, "Encode", e, api.OK)
	beginning := "submit " + hexed(add) + "\nnext\nlook 1\nstate\n"
	one, e := desk.Run(beginning + "crash -\nlook 1\n")
	wantCode(t, "Run", e, api.OK)
	other, e := desk.Run(beginning + "tamper 0 9\ncrash ff\nbooks")
	wantCode(t, "Run", e, api.OK)
	alone, e := desk.Run(beginning)
	wantCode(t, "Run", e, api.OK)
	if !strings.HasPrefix(one, alone) || !strings.HasPrefix(other, alone) || !bytes.Contains([]byte(alone), []byte("2 ok 1 000000000000\n3 ok 0 0 0\n4 ok 2 1 ")) {
		t.Errorf("%q, %q, %q", one, other, alone)
	}
}
