package tests

import (
	"fmt"
	"slices"
	"strings"
	"testing"

	"loop.example/satchel/impl"
)

var zoe = impl.Addr{User: "zoe", Domain: "no.net"}

// oneConf is a host with two local domains; one of its routes leads to a part of what another one leads to.
func oneConf() impl.Conf {
	return impl.Conf{
		Name: "one.org",
		Own:  []string{"one.org", "a.b.c"},
		Ways: []impl.Way{{End: "org", To: "hub"}, {End: "two.org", To: "three"}, {End: "two.org", To: "four"}, {End: "b.c", To: "five"}},
	}
}

func goodConfs() []impl.Conf {
	longest := "abcdefgh.abcdefgh.abcdefgh"
	return []impl.Conf{
		{Name: "a"}, {Name: "a", Own: []string{"a"}}, {Name: "a", Own: []string{"b", "b", "b"}}, {Name: "a", Ways: []impl.Way{{End: "a", To: "a"}}},
		{Name: longest, Own: []string{longest, longest, longest}, Ways: slices.Repeat([]impl.Way{{End: longest, To: longest}}, impl.WaysMax)},
		{Name: "a", Own: []string{}, Ways: []impl.Way{{End: "c", To: "x"}, {End: "c", To: "y"}, {End: "b.c", To: "z"}, {End: "a.b.c", To: "c"}}},
		{Name: "a", Own: []string{"b.c"}, Ways: []impl.Way{{End: "a.b.c", To: "z"}, {End: "b.c", To: "y"}, {End: "c", To: "x"}}}, oneConf(),
	}
}

func badConfs() []impl.Conf {
	list := []impl.Conf{
		{}, {Own: []string{"a"}}, {Name: "a", Own: slices.Repeat([]string{"a"}, impl.OwnMax+1)}, {Name: "a", Own: slices.Repeat([]string{"a"}, 1000)},
		{Name: "a", Ways: slices.Repeat([]impl.Way{{End: "a", To: "a"}}, impl.WaysMax+1)}, {Name: "a", Ways: slices.Repeat([]impl.Way{{End: "a", To: "a"}}, 1000)},
		{Name: "a", Ways: []impl.Way{{}}},
	}
	for _, d := range badDomains {
		list = append(list,
			impl.Conf{Name: d, Own: []string{"a"}, Ways: []impl.Way{{End: "a", To: "a"}}},
			impl.Conf{Name: "a", Own: []string{"a", "b", d}}, impl.Conf{Name: "a", Own: []string{d}},
			impl.Conf{Name: "a", Ways: []impl.Way{{End: d, To: "a"}}}, impl.Conf{Name: "a", Ways: []impl.Way{{End: "a", To: "a"}, {End: "b", To: d}}})
	}
	return list
}

// mailAt is a message in the middle of a dialogue that has come to a state.
func mailAt(state int) impl.Mail {
	switch state {
	case impl.SessMail:
		return impl.Mail{From: bob}
	case impl.SessRcpt:
		return impl.Mail{From: bob, To: []impl.Addr{ann}}
	case impl.SessData:
		return impl.Mail{From: bob, To: []impl.Addr{ann}, Body: []string{"x"}}
	}
	return impl.Mail{}
}

// fullSess is a dialogue with something in each field, to see what a line clears and what it keeps.
func fullSess(state int) impl.Sess {
	return impl.Sess{State: state, Mail: mailAt(impl.SessData), Bad: true, Buf: "kept\r"}
}

// goodSesses are dialogues in every state, also such as no client can bring about.
func goodSesses() []impl.Sess {
	list := []impl.Sess{{}, {Buf: strings.Repeat("\r", impl.CommandMax)}, {Buf: "\n\r"}}
	for state := impl.SessNew; state <= impl.SessOver; state++ {
		list = append(list, impl.Sess{State: state}, impl.Sess{State: state, Mail: mailAt(state)}, fullSess(state),
			impl.Sess{State: state, Mail: impl.Mail{From: badAddrs[0], To: slices.Repeat([]impl.Addr{badAddrs[1]}, impl.ToMax), Body: []string{"\r\n", lineOf(100)}}},
			impl.Sess{State: state, Mail: impl.Mail{From: ann, To: []impl.Addr{ann, bob, cat, dan}, Body: bodyOf(impl.BodyMax + 1)}, Buf: lineOf(impl.CommandMax)})
	}
	return list
}

func badSesses() []impl.Sess {
	return []impl.Sess{
		{State: -1}, {State: 6}, {State: 1 << 40}, {State: -1 << 63}, {Buf: lineOf(impl.CommandMax + 1)}, {Buf: lineOf(100000)},
		{Buf: crlf}, {Buf: "a" + crlf}, {Buf: crlf + "a"}, {Buf: "\r" + crlf}, {State: impl.SessOver, Buf: crlf},
		{Mail: impl.Mail{To: slices.Repeat([]impl.Addr{ann}, impl.ToMax+1)}}, {State: impl.SessOver, Mail: impl.Mail{To: make([]impl.Addr, 1000)}},
		{Mail: impl.Mail{Body: bodyOf(impl.BodyMax + 2)}}, {State: impl.SessData, Mail: impl.Mail{Body: make([]string, 1000)}},
	}
}

func sessText(s impl.Sess) string {
	return fmt.Sprintf("{%d %.200q %v %.200q}", s.State, s.Mail, s.Bad, s.Buf)
}

func sameSess(a impl.Sess, b impl.Sess) bool {
	return a.State == b.State && sameMail(a.Mail, b.Mail) && a.Bad == b.Bad && a.Buf == b.Buf
}

func sameMails(a []impl.Mail, b []impl.Mail) bool {
	return slices.EqualFunc(a, b, sameMail)
}

func withoutMail(s impl.Sess) impl.Sess {
	s.Mail, s.Bad = impl.Mail{}, false
	return s
}

func TestConfOk(t *testing.T) {
	for _, c := range goodConfs() {
		if !impl.ConfOk(c) {
			t.Errorf("%q is valid", c)
		}
	}
	for _, c := range badConfs() {
		if impl.ConfOk(c) {
			t.Errorf("%.200q is not valid", c)
		}
	}
	for n := range 7 {
		c := impl.Conf{Name: "a", Own: slices.Repeat([]string{"a"}, n)}
		if impl.ConfOk(c) != (n <= impl.OwnMax) {
			t.Errorf("%d local domains", n)
		}
		c = impl.Conf{Name: "a", Ways: slices.Repeat([]impl.Way{{End: "a", To: "b"}}, n)}
		if impl.ConfOk(c) != (n <= impl.WaysMax) {
			t.Errorf("%d routes", n)
		}
	}
}

func TestWayOf(t *testing.T) {
	want := map[string]string{
		"org": "hub", "x.org": "hub", "x.y.org": "hub", "two.org": "three", "x.two.org": "three", "xtwo.org": "hub", "wo.org": "hub",
		"one.org": "", "x.one.org": "hub", "a.b.c": "", "b.c": "five", "x.b.c": "five", "c": "", "a.c": "", "xb.c": "", "no.net": "", "two": "", "org.two": "",
		"": "", "x.a.b.c": "", "w.x.y.org": "", "X.org": "", ".org": "", "org.": "", "abcdefghi.org": "",
	}
	for d, to := range want {
		if got := impl.WayOf(oneConf(), d); got != to {
			t.Errorf("WayOf(%q) = %q, not %q", d, got, to)
		}
	}
	short := impl.Conf{Name: "a", Ways: []impl.Way{{End: "one.org", To: "x"}, {End: "org", To: "y"}}}
	if got := impl.WayOf(short, "one.org"); got != "x" {
		t.Errorf("a shorter route behind the longest one: %q", got)
	}
	first := impl.Conf{Name: "a", Ways: []impl.Way{{End: "org", To: "x"}, {End: "org", To: "y"}}}
	if got := impl.WayOf(first, "org"); got != "x" {
		t.Errorf("the first of two routes: %q", got)
	}
}

var someDomains = []string{"a", "b", "c", "b.c", "x.b.c", "a.b.c", "c.b.a", "org", "x.org", "two.org", "x.two.org", "one.org", "x.one.org", "no.net", "abcdefgh.abcdefgh.abcdefgh"}

// Promise 10.
func TestLongestRouteIsUsed(t *testing.T) {
	for _, c := range goodConfs() {
		for _, d := range someDomains {
			local := slices.Contains(c.Own, d)
			to, longest := "", 0
			for _, w := range c.Ways {
				if impl.DomainIn(d, w.End) && len(w.End) > longest && !local {
					to, longest = w.To, len(w.End)
				}
			}
			if got := impl.WayOf(c, d); got != to {
				t.Errorf("WayOf(%q, %q) = %q, not %q", c, d, got, to)
			}
			if got := impl.ConfTakes(c, impl.Addr{User: "u", Domain: d}); got != (local || to != "") {
				t.Errorf("ConfTakes(%q, %q) = %v", c, d, got)
			}
		}
		for _, d := range badDomains {
			if got := impl.WayOf(c, d); got != "" {
				t.Errorf("WayOf(%q, %.60q) = %q", c, d, got)
			}
		}
	}
	for _, c := range badConfs() {
		for _, d := range []string{"a", "b", "x.a"} {
			if got := impl.WayOf(c, d); got != "" {
				t.Errorf("WayOf(%.200q, %q) = %q", c, d, got)
			}
		}
	}
}

// Promise 11.
func TestAcceptanceDependsOnTheDomain(t *testing.T) {
	for _, c := range goodConfs() {
		for _, d := range someDomains {
			first := impl.ConfTakes(c, impl.Addr{User: "a", Domain: d})
			for _, user := range []string{"0", "postbox", "abcdefgh", d[:1]} {
				if impl.ConfTakes(c, impl.Addr{User: user, Domain: d}) != first {
					t.Errorf("ConfTakes(%q, %s@%s) = %v", c, user, d, !first)
				}
			}
		}
	}
}

func TestConfTakes(t *testing.T) {
	for _, a := range []impl.Addr{ann, bob, cat, dan, eve, {User: "u", Domain: "x.b.c"}, {User: "u", Domain: "x.one.org"}} {
		if !impl.ConfTakes(oneConf(), a) {
			t.Errorf("%v is taken", a)
		}
	}
	for _, a := range append(slices.Clone(badAddrs), impl.Addr{}, zoe, impl.Addr{User: "u", Domain: "c"}, impl.Addr{User: "ABC", Domain: "one.org"}, impl.Addr{Domain: "one.org"}) {
		if impl.ConfTakes(oneConf(), a) {
			t.Errorf("%v is not taken", a)
		}
	}
	for _, c := range badConfs() {
		if impl.ConfTakes(c, impl.Addr{User: "a", Domain: "a"}) {
			t.Errorf("%.200q takes mail", c)
		}
	}
}

func TestSessOk(t *testing.T) {
	for _, s := range goodSesses() {
		if !impl.SessOk(s) {
			t.Errorf("%s is valid", sessText(s))
		}
	}
	for _, s := range badSesses() {
		if impl.SessOk(s) {
			t.Errorf("%s is not valid", sessText(s))
		}
	}
}

func TestLimitsOfDialogues(t *testing.T) {
	for n := range 100 {
		if impl.SessOk(impl.Sess{Buf: lineOf(n)}) != (n <= impl.CommandMax) {
			t.Errorf("a remainder of %d bytes", n)
		}
	}
	for n := range 20 {
		if impl.SessOk(impl.Sess{Mail: impl.Mail{To: make([]impl.Addr, n)}}) != (n <= impl.ToMax) {
			t.Errorf("%d recipients", n)
		}
		if impl.SessOk(impl.Sess{Mail: impl.Mail{Body: make([]string, n)}}) != (n <= impl.BodyMax+1) {
			t.Errorf("%d lines", n)
		}
		if impl.SessOk(impl.Sess{State: n - 5}) != (n >= 5 && n <= 10) {
			t.Errorf("state %d", n-5)
		}
	}
}

// Promise 13.
func TestServerIntroducesItself(t *testing.T) {
	for _, c := range goodConfs() {
		if got := impl.SessHello(c); got != "220 "+c.Name {
			t.Errorf("SessHello(%q) = %q", c, got)
		}
		for state := impl.SessNew; state <= impl.SessRcpt; state++ {
			for _, d := range goodDomains {
				s, reply, mails := impl.SessStep(c, fullSess(state), "HELO "+d)
				want := withoutMail(fullSess(impl.SessReady))
				if reply != "250 "+c.Name || len(mails) > 0 || !sameSess(s, want) {
					t.Errorf("HELO %s to %q in state %d: %s, %q, %q", d, c, state, sessText(s), reply, mails)
				}
			}
		}
	}
	for _, c := range badConfs() {
		if got := impl.SessHello(c); got != "" {
			t.Errorf("SessHello(%.200q) = %q", c, got)
		}
	}
}

// In the tables of replies, a row has the replies in the states SessNew, SessReady, SessMail and SessRcpt.
type row struct {
	line    string
	replies [4]string
}

func allStates(reply string) [4]string {
	return [4]string{reply, reply, reply, reply}
}

func onlyIn(state int, reply string) [4]string {
	list := allStates("503 order")
	list[state] = reply
	return list
}

// TestLinesThatChangeNothing has the lines that a server refuses, or takes note of, without a change of the dialogue.
func TestLinesThatChangeNothing(t *testing.T) {
	noWay := [4]string{"503 order", "503 order", "550 nobody", "550 nobody"}
	noForm := [4]string{"503 order", "503 order", "501 form", "501 form"}
	rows := []row{
		{"NOOP", allStates("250 ok")},
		{"MAIL FROM:", onlyIn(impl.SessReady, "501 form")}, {"MAIL FROM:a@b", onlyIn(impl.SessReady, "501 form")},
		{"MAIL FROM: <a@b>", onlyIn(impl.SessReady, "501 form")}, {"MAIL FROM:<a@b> ", onlyIn(impl.SessReady, "501 form")}, {"MAIL FROM:<A@b>", onlyIn(impl.SessReady, "501 form")},
		{"RCPT TO:", noForm}, {"RCPT TO:<>", noForm}, {"RCPT TO: <ann@one.org>", noForm}, {"RCPT TO:<ann@one.org> ", noForm}, {"RCPT TO:ann@one.org", noForm}, {"RCPT TO:<ann@One.org>", noForm},
		{"RCPT TO:<zoe@no.net>", noWay}, {"RCPT TO:<u@c>", noWay},
		{"HELO ", allStates("501 form")}, {"HELO A", allStates("501 form")}, {"HELO a.", allStates("501 form")}, {"HELO a.b.c.d", allStates("501 form")},
		{"HELO  a", allStates("501 form")}, {"HELO a ", allStates("501 form")}, {"HELO a b", allStates("501 form")}, {"HELO abcdefghi", allStates("501 form")},
		{"HELO a" + crlf, allStates("501 form")}, {"HELO " + lineOf(impl.CommandMax-5), allStates("501 form")},
	}
	for _, line := range []string{
		"", " ", ".", "..", "x", "HELO", "HELOa", "helo a", "Helo a", "EHLO a", " HELO a", "MAIL", "MAIL FROM", "MAIL FROM <a@b>", "mail from:<a@b>", " MAIL FROM:<a@b>",
		"RCPT", "RCPT TO", "RCPT TO <ann@one.org>", "rcpt to:<ann@one.org>", "RCPT FROM:<ann@one.org>", "MAIL TO:<a@b>", "DATA ", " DATA", "data", "DATA:", "DAT", "DATAX", "DATA" + crlf,
		"QUIT ", "quit", " QUIT", "QUITX", "QUIT" + crlf, "NOOP ", "noop", "NOOP x", "RSET ", "rset", "RSETX", "\x00", "\xff", crlf, "354 go on", lineOf(impl.CommandMax),
	} {
		rows = append(rows, row{line, allStates("500 what")})
	}
	for _, r := range rows {
		for state, want := range r.replies {
			for _, s := range []impl.Sess{{State: state, Mail: mailAt(state)}, fullSess(state)} {
				got, reply, mails := impl.SessStep(oneConf(), s, r.line)
				if !sameSess(got, s) || reply != want || len(mails) > 0 {
					t.Errorf("%q in state %d: %s, %q, %q, not %q", r.line, state, sessText(got), reply, mails, want)
				}
			}
		}
	}
}

func TestCommandsThatReset(t *testing.T) {
	for state := impl.SessNew; state <= impl.SessRcpt; state++ {
		ready := impl.SessReady
		if state == impl.SessNew {
			ready = impl.SessNew
		}
		after := map[string]int{"RSET": ready, "QUIT": impl.SessOver, "HELO me": impl.SessReady}
		replies := map[string]string{"RSET": "250 ok", "QUIT": "221 bye", "HELO me": "250 one.org"}
		for line, next := range after {
			got, reply, mails := impl.SessStep(oneConf(), fullSess(state), line)
			if reply != replies[line] || len(mails) > 0 || !sameSess(got, withoutMail(fullSess(next))) {
				t.Errorf("%s in state %d: %s, %q, %q", line, state, sessText(got), reply, mails)
			}
		}
	}
}

func TestMailFrom(t *testing.T) {
	for state := impl.SessNew; state <= impl.SessRcpt; state++ {
		for _, from := range append(goodAddrs, impl.Addr{}, ann, zoe, longAddrs[0]) {
			for _, bad := range []bool{false, true} {
				s := fullSess(state)
				s.Bad = bad
				want, answer := s, "503 order"
				if state == impl.SessReady {
					want = impl.Sess{State: impl.SessMail, Mail: impl.Mail{From: from}, Bad: bad, Buf: s.Buf}
					answer = "250 from"
				}
				got, reply, mails := impl.SessStep(oneConf(), s, "MAIL FROM:"+impl.AddrPut(from))
				if !sameSess(got, want) || reply != answer || len(mails) > 0 {
					t.Errorf("MAIL FROM:%v in state %d: %s, %q, %q", from, state, sessText(got), reply, mails)
				}
			}
		}
	}
}

func TestRcptTo(t *testing.T) {
	four := []impl.Addr{ann, bob, cat, dan}
	cases := []struct {
		to    []impl.Addr
		add   impl.Addr
		reply string
	}{
		{nil, ann, "250 to"}, {nil, bob, "250 to"}, {nil, eve, "250 to"}, {nil, zoe, "550 nobody"}, {four[:1], bob, "250 to"}, {four[:1], cat, "250 to"}, {four[:2], dan, "250 to"},
		{four[:3], dan, "250 to"}, {four[:1], ann, "250 to"}, {four[:3], bob, "250 to"}, {four, ann, "250 to"}, {four, dan, "250 to"}, {four, eve, "452 many"}, {four, zoe, "550 nobody"},
		{[]impl.Addr{zoe}, zoe, "550 nobody"}, {[]impl.Addr{{}, {}, {}}, ann, "250 to"},
	}
	for _, c := range cases {
		for state := impl.SessMail; state <= impl.SessRcpt; state++ {
			s := impl.Sess{State: state, Mail: impl.Mail{From: bob, To: c.to, Body: []string{"x"}}, Bad: true, Buf: "kept"}
			want := s
			if c.reply == "250 to" && !slices.Contains(c.to, c.add) {
				want.State = impl.SessRcpt
				want.Mail.To = append(slices.Clone(c.to), c.add)
			}
			got, reply, mails := impl.SessStep(oneConf(), s, "RCPT TO:"+impl.AddrPut(c.add))
			if !sameSess(got, want) || reply != c.reply || len(mails) > 0 {
				t.Errorf("RCPT TO:%v behind %v in state %d: %s, %q, %q", c.add, c.to, state, sessText(got), reply, mails)
			}
		}
		for state := impl.SessNew; state <= impl.SessReady; state++ {
			s := impl.Sess{State: state, Mail: impl.Mail{To: c.to}}
			if got, reply, _ := impl.SessStep(oneConf(), s, "RCPT TO:"+impl.AddrPut(c.add)); reply != "503 order" || !sameSess(got, s) {
				t.Errorf("RCPT TO:%v in state %d: %s, %q", c.add, state, sessText(got), reply)
			}
		}
	}
}

func TestData(t *testing.T) {
	for state := impl.SessNew; state <= impl.SessRcpt; state++ {
		want, answer := fullSess(state), "503 order"
		if state == impl.SessRcpt {
			want.State = impl.SessData
			answer = "354 go on"
		}
		got, reply, mails := impl.SessStep(oneConf(), fullSess(state), "DATA")
		if !sameSess(got, want) || reply != answer || len(mails) > 0 {
			t.Errorf("DATA in state %d: %s, %q, %q", state, sessText(got), reply, mails)
		}
	}
}

func TestLinesOfABody(t *testing.T) {
	good := map[string]string{
		"": "", "x": "x", " ": " ", "..": ".", "...": "..", ".x": "x", "..x": ".x", "x.": "x.", " .": " .", ". ": " ", "QUIT": "QUIT", "RSET": "RSET", "DATA": "DATA", "HELO a": "HELO a", "Hop: a": "Hop: a",
		lineOf(impl.LineMax): lineOf(impl.LineMax), "." + lineOf(impl.LineMax): lineOf(impl.LineMax), "." + dottedLine(): dottedLine(),
	}
	for _, bad := range []bool{false, true} {
		for line, plain := range good {
			for n := range impl.BodyMax + 2 {
				s := impl.Sess{State: impl.SessData, Mail: impl.Mail{From: bob, To: []impl.Addr{ann}, Body: bodyOf(n)}, Bad: bad, Buf: "kept"}
				want := s
				if n < impl.BodyMax {
					want.Mail.Body = append(bodyOf(n), plain)
				} else {
					want.Bad = true
				}
				checkBodyLine(t, s, line, want)
			}
		}
	}
	for _, line := range append(oddLines(), lineOf(impl.LineMax+1), "."+lineOf(impl.LineMax+1), ".."+lineOf(impl.LineMax), lineOf(impl.CommandMax)) {
		s := impl.Sess{State: impl.SessData, Mail: mailAt(impl.SessData), Buf: "kept"}
		want := s
		want.Bad = true
		checkBodyLine(t, s, line, want)
	}
}

// oddLines have a byte that no line has.
func oddLines() []string {
	list := []string{"\r", "\n", "a\r", "a\n", crlf, "." + crlf, ".\r", ".\n", "\x00", ".\x00"}
	for b := range 256 {
		if b < 32 || b > 126 {
			list = append(list, "a"+string([]byte{byte(b)}), ".a"+string([]byte{byte(b)}))
		}
	}
	return list
}

func checkBodyLine(t *testing.T, s impl.Sess, line string, want impl.Sess) {
	t.Helper()
	got, reply, mails := impl.SessStep(oneConf(), s, line)
	if !sameSess(got, want) || reply != "" || len(mails) > 0 {
		t.Errorf("%q in %s: %s, %q, %q", line, sessText(s), sessText(got), reply, mails)
	}
}

func hops(n int) []string {
	return slices.Repeat([]string{"Hop: a.b"}, n)
}

func TestEndOfAMessage(t *testing.T) {
	type end struct {
		body  []string
		bad   bool
		reply string
	}
	cases := []end{
		{nil, true, "554 no"}, {[]string{"x"}, true, "554 no"}, {hops(impl.HopMax), true, "554 no"}, {hops(impl.HopMax + 1), true, "554 no"},
		{append([]string{"x"}, hops(impl.HopMax)...), false, "250 taken"}, {append(hops(impl.HopMax-1), "x", "Hop: a"), false, "250 taken"},
		{append(hops(impl.HopMax-1), "Hop: A"), false, "250 taken"}, {append(hops(impl.HopMax), bodyOf(impl.BodyMax-impl.HopMax-1)...), false, "554 round"},
		{append(hops(impl.HopMax), bodyOf(impl.BodyMax-impl.HopMax)...), false, "554 no"}, {append(hops(impl.HopMax), "\x7f"), false, "554 no"},
	}
	for n := range impl.BodyMax + 2 {
		reply := "250 taken"
		if n >= impl.BodyMax {
			reply = "554 no"
		}
		cases = append(cases, end{bodyOf(n), false, reply})
		if n >= impl.HopMax && n < impl.BodyMax {
			reply = "554 round"
		}
		cases = append(cases, end{hops(n), false, reply})
	}
	for _, body := range badBodies() {
		if len(body) <= impl.BodyMax+1 {
			cases = append(cases, end{body, false, "554 no"})
		}
	}
	for _, c := range cases {
		m := impl.Mail{From: bob, To: []impl.Addr{ann, dan}, Body: c.body}
		got, reply, mails := impl.SessStep(oneConf(), impl.Sess{State: impl.SessData, Mail: m, Bad: c.bad, Buf: "kept"}, ".")
		var want []impl.Mail
		if c.reply == "250 taken" {
			want = append(want, m)
		}
		if !sameSess(got, impl.Sess{State: impl.SessReady, Buf: "kept"}) || reply != c.reply || !sameMails(mails, want) {
			t.Errorf("the end of %q: %s, %q, %q", c.body, sessText(got), reply, mails)
		}
	}
}

func TestNothingHappensWhenItIsOver(t *testing.T) {
	for _, line := range someLines() {
		for _, s := range []impl.Sess{{State: impl.SessOver}, fullSess(impl.SessOver)} {
			got, reply, mails := impl.SessStep(oneConf(), s, line)
			if !sameSess(got, s) || reply != "" || len(mails) > 0 {
				t.Errorf("%q when it is over: %s, %q, %q", line, sessText(got), reply, mails)
			}
		}
	}
}

func someLines() []string {
	return []string{
		"", ".", "..", "x", ".x", "HELO me", "HELO A", "HELO", "QUIT", "NOOP", "RSET", "MAIL FROM:<a@b>", "MAIL FROM:<>", "MAIL FROM:a", "RCPT TO:<ann@one.org>", "RCPT TO:<bob@two.org>",
		"RCPT TO:<zoe@no.net>", "RCPT TO:<>", "RCPT TO:", "DATA", "data", "Hop: a", "\r", "\x00", "." + crlf, lineOf(impl.LineMax + 1), lineOf(impl.CommandMax),
	}
}

// Promise 12.
func TestEveryCommandHasOneReply(t *testing.T) {
	for _, c := range goodConfs() {
		for _, s := range goodSesses() {
			for _, line := range someLines() {
				got, reply, mails := impl.SessStep(c, s, line)
				silent := s.State == impl.SessOver || s.State == impl.SessData && line != "."
				if (reply == "") != silent || (reply == "250 taken") != (len(mails) == 1) || len(mails) > 1 {
					t.Errorf("%q in %s: %q, %q", line, sessText(s), reply, mails)
				}
				if !impl.SessOk(got) || got.Buf != s.Buf {
					t.Errorf("%q in %s: %s", line, sessText(s), sessText(got))
				}
			}
		}
	}
}

func TestStepOfInvalidArguments(t *testing.T) {
	check := func(c impl.Conf, s impl.Sess, line string) {
		t.Helper()
		got, reply, mails := impl.SessStep(c, s, line)
		if !sameSess(got, impl.Sess{}) || reply != "" || len(mails) > 0 {
			t.Errorf("SessStep(%.200q, %s, %.200q) = %s, %q, %q", c, sessText(s), line, sessText(got), reply, mails)
		}
	}
	for _, line := range someLines() {
		for _, c := range badConfs() {
			check(c, fullSess(impl.SessData), line)
		}
		for _, s := range badSesses() {
			check(oneConf(), s, line)
		}
	}
	for state := impl.SessNew; state <= impl.SessOver; state++ {
		for _, line := range []string{lineOf(impl.CommandMax + 1), "HELO a" + strings.Repeat(" ", impl.CommandMax), lineOf(100000)} {
			check(oneConf(), fullSess(state), line)
		}
	}
}

const toData = "HELO me\r\nMAIL FROM:<bob@two.org>\r\nRCPT TO:<ann@one.org>\r\nDATA\r\n"

var toDataReplies = []string{"250 one.org", "250 from", "250 to", "354 go on"}

func TestFeed(t *testing.T) {
	mail := func(lines ...string) impl.Mail {
		return impl.Mail{From: bob, To: []impl.Addr{ann}, Body: lines}
	}
	cases := []struct {
		text    string
		state   int
		buf     string
		replies []string
		mails   []impl.Mail
	}{
		{"", impl.SessNew, "", nil, nil}, {"NOO", impl.SessNew, "NOO", nil, nil}, {"NOOP\r", impl.SessNew, "NOOP\r", nil, nil}, {"NOOP\n", impl.SessNew, "NOOP\n", nil, nil},
		{"NOOP\r\n", impl.SessNew, "", []string{"250 ok"}, nil}, {"NOOP\r\nHE", impl.SessNew, "HE", []string{"250 ok"}, nil}, {"\r\n\r\n", impl.SessNew, "", []string{"500 what", "500 what"}, nil},
		{"NOOP\nNOOP\r\nNOOP\r\r\n", impl.SessNew, "", []string{"500 what", "500 what"}, nil},
		{toData + ".\r\n", impl.SessReady, "", append(slices.Clone(toDataReplies), "250 taken"), []impl.Mail{mail()}},
		{toData + "..\r\n.x\r\n\r\nQUIT\r\n.\r\nQUIT\r\n", impl.SessOver, "", append(slices.Clone(toDataReplies), "250 taken", "221 bye"), []impl.Mail{mail(".", "x", "", "QUIT")}},
		{toData + "1\r\n.\r\n" + toData + "\x01\r\n.\r\n" + toData + "3\r\n.\r\n.", impl.SessReady, ".",
			slices.Concat(toDataReplies, []string{"250 taken"}, toDataReplies, []string{"554 no"}, toDataReplies, []string{"250 taken"}), []impl.Mail{mail("1"), mail("3")}},
		{"QUIT\r\nNOOP\r\nNOO", impl.SessOver, "", []string{"221 bye"}, nil}, {"QUIT\r\n" + lineOf(impl.CommandMax+1), impl.SessOver, "", []string{"221 bye"}, nil},
		{"QUIT\r\n" + lineOf(200) + crlf, impl.SessOver, "", []string{"221 bye"}, nil},
		{"NOOP\r\n" + lineOf(200) + "\r\nNOOP\r\nNOO", impl.SessOver, "", []string{"250 ok", "500 long"}, nil}, {"NOOP\r\n" + lineOf(200), impl.SessOver, "", []string{"250 ok", "500 long"}, nil},
		{toData + "x\r\n" + lineOf(79) + "\r\n.\r\n", impl.SessOver, "", append(slices.Clone(toDataReplies), "500 long"), nil},
	}
	for _, c := range cases {
		s, replies, mails := impl.SessFeed(oneConf(), impl.Sess{}, c.text)
		if !sameSess(s, impl.Sess{State: c.state, Buf: c.buf}) || !slices.Equal(replies, c.replies) || !sameMails(mails, c.mails) {
			t.Errorf("SessFeed(%q) = %s, %q, %q", c.text, sessText(s), replies, mails)
		}
	}
	s, _, _ := impl.SessFeed(oneConf(), impl.Sess{}, toData+"x\r\ny\x00\r\n..")
	if want := (impl.Sess{State: impl.SessData, Mail: mail("x"), Bad: true, Buf: ".."}); !sameSess(s, want) {
		t.Errorf("in the middle of a message: %s", sessText(s))
	}
}

// TestLineLimits has lines and remainders around their limits, in each state and in each division between Buf and the chunk.
func TestLineLimits(t *testing.T) {
	for state := impl.SessNew; state <= impl.SessData; state++ {
		for n := impl.CommandMax - 4; n <= impl.CommandMax+3; n++ {
			for i := 0; i <= min(n, impl.CommandMax); i++ {
				s := fullSess(state)
				s.Buf = lineOf(i)
				whole := lineOf(n - i)
				checkLong(t, s, whole, n > impl.CommandMax, lineOf(min(n, impl.CommandMax)))
				checkLong(t, s, whole+crlf, n > impl.CommandMax-2, "")
				checkLong(t, s, whole+crlf+"NOO", n > impl.CommandMax-2, "NOO")
			}
		}
	}
	split := impl.Sess{Buf: lineOf(impl.CommandMax-1) + "\r"}
	if s, replies, _ := impl.SessFeed(oneConf(), split, "\n"); !slices.Equal(replies, []string{"500 long"}) || !sameSess(s, impl.Sess{State: impl.SessOver}) {
		t.Errorf("a long line that ends between two chunks: %s, %q", sessText(s), replies)
	}
	split = impl.Sess{Buf: lineOf(impl.CommandMax-2) + "\r"}
	if s, replies, _ := impl.SessFeed(oneConf(), split, "\n"); !slices.Equal(replies, []string{"500 what"}) || !sameSess(s, impl.Sess{}) {
		t.Errorf("a line that ends between two chunks: %s, %q", sessText(s), replies)
	}
}

func checkLong(t *testing.T, s impl.Sess, text string, long bool, buf string) {
	t.Helper()
	got, replies, mails := impl.SessFeed(oneConf(), s, text)
	if slices.Contains(replies, "500 long") != long || len(mails) > 0 {
		t.Errorf("SessFeed(%s, %q): %q, %q", sessText(s), text, replies, mails)
	}
	if long && (!sameSess(got, impl.Sess{State: impl.SessOver}) || len(replies) != 1) || !long && (got.Buf != buf || got.State != s.State) {
		t.Errorf("SessFeed(%s, %q): %s, %q", sessText(s), text, sessText(got), replies)
	}
}

func TestFeedWhenItIsOver(t *testing.T) {
	for _, text := range []string{"", "x", "NOOP\r\n", lineOf(100), lineOf(100) + crlf, toData + ".\r\n"} {
		s, replies, mails := impl.SessFeed(oneConf(), fullSess(impl.SessOver), text)
		want := fullSess(impl.SessOver)
		want.Buf = ""
		if !sameSess(s, want) || len(replies) > 0 || len(mails) > 0 {
			t.Errorf("SessFeed of %q when it is over: %s, %q, %q", text, sessText(s), replies, mails)
		}
	}
}

func TestLimitOfChunks(t *testing.T) {
	noops := impl.FeedMax / 6
	full := "P\r\n" + strings.Repeat("NOOP\r\n", noops-1) + lineOf(impl.FeedMax-6*noops+3)
	s, replies, mails := impl.SessFeed(oneConf(), impl.Sess{Buf: "NOO"}, full)
	if len(full) != impl.FeedMax || !slices.Equal(replies, slices.Repeat([]string{"250 ok"}, noops)) || len(mails) > 0 || !sameSess(s, impl.Sess{Buf: lineOf(impl.FeedMax - 6*noops + 3)}) {
		t.Errorf("FeedMax bytes: %s, %q, %q", sessText(s), replies, mails)
	}
	for _, text := range []string{full + "x", full + crlf, strings.Repeat("NOOP\r\n", 10000), lineOf(100000)} {
		checkZeroFeed(t, oneConf(), impl.Sess{}, text)
		checkZeroFeed(t, oneConf(), fullSess(impl.SessOver), text)
	}
}

func TestFeedOfInvalidArguments(t *testing.T) {
	for _, text := range []string{"", "x", "NOOP\r\n", toData + ".\r\n"} {
		for _, c := range badConfs() {
			checkZeroFeed(t, c, fullSess(impl.SessReady), text)
		}
		for _, s := range badSesses() {
			checkZeroFeed(t, oneConf(), s, text)
		}
	}
}

func checkZeroFeed(t *testing.T, c impl.Conf, s impl.Sess, text string) {
	t.Helper()
	got, replies, mails := impl.SessFeed(c, s, text)
	if !sameSess(got, impl.Sess{}) || len(replies) > 0 || len(mails) > 0 {
		t.Errorf("SessFeed(%.200q, %s, %.200q) = %s, %q, %q", c, sessText(s), text, sessText(got), replies, mails)
	}
}

// Promise 14.
func TestDivisionIntoChunksDoesNotMatter(t *testing.T) {
	texts := []string{
		"", "\r\n", toData + "..x\r\n.\r\nHELO x\r\nQUIT\r\nNOOP\r\n", toData + "a\r\nb\x00\r\n.\r\nMAIL FROM:<>\r\nRCPT TO:<zoe@no.net>\r\nRCPT TO:<eve@a.b.c>\r\nDATA\r\nQUIT\r\n.",
		toData + strings.Repeat("x\r\n", impl.BodyMax-1) + ".\r\n" + toData + strings.Repeat("x\r\n", impl.BodyMax) + ".\r\n", "NOOP\r\r\n\n\r\nNOOP\n\rNOOP\r\nNOOP\r",
		"NOOP\r\n" + lineOf(impl.CommandMax-2) + "\r\nNOOP\r\n", "NOOP\r\n" + lineOf(impl.CommandMax-1) + "\r\nNOOP\r\n", lineOf(impl.CommandMax-1) + "\r", lineOf(impl.CommandMax), lineOf(impl.CommandMax + 1),
		lineOf(impl.CommandMax) + crlf, lineOf(impl.CommandMax-1) + "\n\r\n", "QUIT\r\n" + lineOf(impl.CommandMax+1), toData + lineOf(impl.CommandMax+5) + "\r\n.\r\n", toData + lineOf(50) + "\r\n.\r\nQUIT\r\n\r\n",
	}
	for _, text := range texts {
		for _, s := range append(goodSesses(), impl.Sess{Buf: "NOOP\r"}, impl.Sess{State: impl.SessData, Mail: mailAt(impl.SessData), Buf: ".\r"}) {
			checkDivisions(t, s, text)
		}
	}
}

func checkDivisions(t *testing.T, s impl.Sess, text string) {
	t.Helper()
	whole, replies, mails := impl.SessFeed(oneConf(), s, text)
	if !impl.SessOk(whole) {
		t.Errorf("SessFeed(%s, %q) = %s", sessText(s), text, sessText(whole))
	}
	for i := range len(text) + 1 {
		checkParts(t, s, []string{text[:i], text[i:]}, whole, replies, mails)
	}
	checkParts(t, s, strings.Split(text, ""), whole, replies, mails)
}

func checkParts(t *testing.T, s impl.Sess, parts []string, whole impl.Sess, replies []string, mails []impl.Mail) {
	t.Helper()
	var said []string
	var taken []impl.Mail
	for _, part := range parts {
		next, some, more := impl.SessFeed(oneConf(), s, part)
		if !impl.SessOk(next) {
			t.Errorf("SessFeed(%s, %q) = %s", sessText(s), part, sessText(next))
		}
		s, said, taken = next, append(said, some...), append(taken, more...)
	}
	if len(parts) > 0 && (!sameSess(s, whole) || !slices.Equal(said, replies) || !sameMails(taken, mails)) {
		t.Errorf("in the parts %q: %s, %q, %q, not %s, %q, %q", parts, sessText(s), said, taken, sessText(whole), replies, mails)
	}
}

// Promise 15.
func TestAcceptedMessagesAreAcceptable(t *testing.T) {
	taken := 0
	check := func(text string) {
		_, replies, mails := impl.SessFeed(oneConf(), impl.Sess{}, text)
		count := 0
		for _, reply := range replies {
			if reply == "250 taken" {
				count++
			}
		}
		if count != len(mails) {
			t.Errorf("SessFeed(%q) = %q, %q", text, replies, mails)
		}
		for _, m := range mails {
			checkAcceptable(t, m)
		}
		taken += count
	}
	lines := []string{"HELO me", "MAIL FROM:<>", "MAIL FROM:<bob@two.org>", "RCPT TO:<ann@one.org>", "RCPT TO:<zoe@no.net>", "RCPT TO:<bob@two.org>", "DATA", ".", "..", "RSET", "\x00", lineOf(79)}
	for i := range lines {
		lines[i] += crlf
	}
	eachText(lines, 3, func(s string) { check(toData + s) })
	eachText(lines[1:8], 4, func(s string) { check("HELO me\r\nMAIL FROM:<>\r\n" + s + "DATA\r\n.\r\n.\r\n") })
	for n := range impl.BodyMax + 3 {
		for k := range n + 1 {
			check(toData + strings.Repeat("Hop: a\r\n", k) + strings.Repeat("x\r\n", n-k) + ".\r\n")
			check(toData + strings.Repeat("x\r\n", k) + strings.Repeat("Hop: a\r\n", n-k) + ".\r\n")
		}
	}
	if taken == 0 {
		t.Error("no message was accepted")
	}
}

func checkAcceptable(t *testing.T, m impl.Mail) {
	t.Helper()
	if !impl.MailOk(m) || impl.HopsOf(m.Body) >= impl.HopMax || len(m.Body) >= impl.BodyMax {
		t.Errorf("%q was accepted", m)
	}
	for _, a := range m.To {
		if !impl.ConfTakes(oneConf(), a) {
			t.Errorf("%q was accepted for %v", m, a)
		}
	}
}
