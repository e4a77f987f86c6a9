package tests

import (
	"fmt"
	"slices"
	"strings"
	"testing"

	"loop.example/satchel/impl"
)

func letter() impl.Mail {
	return impl.Mail{From: eve, To: []impl.Addr{ann, bob}, Body: []string{"hi", ".x"}}
}

func cliAt(state int, at int, outs ...int) impl.Cli {
	return impl.Cli{Name: "me", Mail: letter(), State: state, At: at, Outs: outs}
}

// eachCli calls f for every valid client of a message for two.
func eachCli(f func(c impl.Cli)) {
	for state := impl.CliHello; state <= impl.CliOver; state++ {
		for at := range 3 {
			if state == impl.CliTo && at == 0 {
				continue
			}
			for first := impl.OutNone; first <= impl.OutPerm; first++ {
				for second := impl.OutNone; second <= impl.OutPerm; second++ {
					f(cliAt(state, at, first, second))
				}
			}
		}
	}
}

func badClis() []impl.Cli {
	list := []impl.Cli{
		{}, {Name: "me", Mail: impl.Mail{}}, cliAt(-1, 0, 0, 0), cliAt(8, 0, 0, 0), cliAt(1<<40, 0, 0, 0), cliAt(-1<<63, 0, 0, 0),
		cliAt(0, -1, 0, 0), cliAt(0, 3, 0, 0), cliAt(0, 1<<40, 0, 0), cliAt(impl.CliTo, 0, 0, 0), cliAt(impl.CliTo, -1, 0, 0), cliAt(impl.CliTo, 3, 0, 0),
		cliAt(0, 0), cliAt(0, 0, 0), cliAt(0, 0, 0, 0, 0), cliAt(0, 0, -1, 0), cliAt(0, 0, 0, 5), cliAt(0, 0, 5, 0), cliAt(0, 0, 0, -1), cliAt(impl.CliOver, 0, 0, 1<<40),
	}
	for _, name := range badDomains {
		c := cliAt(0, 0, 0, 0)
		c.Name = name
		list = append(list, c)
	}
	eachBadMail(func(m impl.Mail) {
		list = append(list, impl.Cli{Name: "me", Mail: m, Outs: make([]int, len(m.To))})
	})
	return list
}

func sameCli(a impl.Cli, b impl.Cli) bool {
	return a.Name == b.Name && sameMail(a.Mail, b.Mail) && a.State == b.State && a.At == b.At && slices.Equal(a.Outs, b.Outs)
}

func cliText(c impl.Cli) string {
	return fmt.Sprintf("{%.60q %.200q state %d at %d outs %v}", c.Name, c.Mail, c.State, c.At, c.Outs)
}

func everyReply() []string {
	list := []string{"", "250", "x", "650 x", "150 x"}
	for code := 200; code <= 599; code++ {
		list = append(list, fmt.Sprintf("%d ", code))
	}
	return list
}

// Promise 16.
func TestReplyCode(t *testing.T) {
	for n := range 1000 {
		three := fmt.Sprintf("%03d", n)
		want := 0
		if n >= 200 && n <= 599 {
			want = n
		}
		for _, rest := range []string{"", "x", " ", "ok", crlf, "\x00\xff", lineOf(100000)} {
			if got := impl.ReplyCode(three + " " + rest); got != want {
				t.Errorf("ReplyCode(%.20q) = %d", three+" "+rest, got)
			}
		}
		for _, s := range []string{three, three + "-", three + "x ", three + "\t", three + "0 ", three + "\x00", " " + three + " ", "+" + three + " "} {
			if got := impl.ReplyCode(s); got != 0 {
				t.Errorf("ReplyCode(%q) = %d", s, got)
			}
		}
	}
	for _, s := range []string{"", "2", "25", " ", "    ", "x", "ok  ", "-25 ", "2-5 ", "25- ", "2 5 ", "25  ", " 50 ", "0x2 ", "2e2 ", "\xff\xff\xff ", "²50 ", "\r\n\r\n"} {
		if got := impl.ReplyCode(s); got != 0 {
			t.Errorf("ReplyCode(%q) = %d", s, got)
		}
	}
}

func TestEveryByteOfAReplyCode(t *testing.T) {
	for i := range 4 {
		for b := range 256 {
			s := []byte("450 ")
			s[i] = byte(b)
			want := 0
			switch {
			case i == 0 && b >= '2' && b <= '5':
				want = 100*(b-'0') + 50
			case i == 1 && b >= '0' && b <= '9':
				want = 400 + 10*(b-'0')
			case i == 2 && b >= '0' && b <= '9':
				want = 450 + b - '0'
			case i == 3 && b == ' ':
				want = 450
			}
			if got := impl.ReplyCode(string(s)); got != want {
				t.Errorf("ReplyCode(%q) = %d, not %d", s, got, want)
			}
		}
	}
}

func TestCliOk(t *testing.T) {
	eachCli(func(c impl.Cli) {
		if !impl.CliOk(c) {
			t.Errorf("%s is valid", cliText(c))
		}
	})
	for _, c := range badClis() {
		if impl.CliOk(c) {
			t.Errorf("%s is not valid", cliText(c))
		}
	}
	for state := -3; state < 12; state++ {
		for at := -2; at < 6; at++ {
			want := state >= 0 && state <= 7 && at >= 0 && at <= 2 && (state != 3 || at > 0)
			if impl.CliOk(cliAt(state, at, 0, 0)) != want {
				t.Errorf("state %d at %d", state, at)
			}
		}
	}
}

// Promise 17.
func TestNewClientKnowsNothing(t *testing.T) {
	eachGoodMail(func(m impl.Mail) {
		for _, name := range goodDomains {
			c := impl.CliNew(name, m)
			if want := (impl.Cli{Name: name, Mail: m, Outs: make([]int, len(m.To))}); !sameCli(c, want) || !impl.CliOk(c) {
				t.Errorf("CliNew(%q, %q) = %s", name, m, cliText(c))
			}
			if outs := impl.CliOuts(c); !slices.Equal(outs, slices.Repeat([]int{impl.OutTemp}, len(m.To))) {
				t.Errorf("CliOuts of a new client = %v", outs)
			}
		}
	})
}

func TestNewClientOfInvalidArguments(t *testing.T) {
	for _, name := range badDomains {
		if c := impl.CliNew(name, letter()); !sameCli(c, impl.Cli{}) {
			t.Errorf("CliNew(%.60q) = %s", name, cliText(c))
		}
	}
	eachBadMail(func(m impl.Mail) {
		if c := impl.CliNew("me", m); !sameCli(c, impl.Cli{}) {
			t.Errorf("CliNew of %.200q = %s", m, cliText(c))
		}
	})
}

func TestExpectedReplies(t *testing.T) {
	const none, pass, done, temp, perm = impl.OutNone, impl.OutPass, impl.OutDone, impl.OutTemp, impl.OutPerm
	cases := []struct {
		before impl.Cli
		answer string
		after  impl.Cli
		said   string
	}{
		{cliAt(impl.CliHello, 0, none, none), "220 one.org", cliAt(impl.CliName, 0, none, none), "HELO me"},
		{cliAt(impl.CliName, 0, none, none), "250 one.org", cliAt(impl.CliFrom, 0, none, none), "MAIL FROM:<e@a.b.c>"},
		{cliAt(impl.CliFrom, 0, none, none), "250 from", cliAt(impl.CliTo, 1, none, none), "RCPT TO:<ann@one.org>"},
		{cliAt(impl.CliTo, 1, none, none), "250 to", cliAt(impl.CliTo, 2, pass, none), "RCPT TO:<bob@two.org>"},
		{cliAt(impl.CliTo, 2, pass, none), "250 to", cliAt(impl.CliData, 2, pass, pass), "DATA"},
		{cliAt(impl.CliTo, 1, none, none), "550 nobody", cliAt(impl.CliTo, 2, perm, none), "RCPT TO:<bob@two.org>"},
		{cliAt(impl.CliTo, 1, none, none), "452 many", cliAt(impl.CliTo, 2, temp, none), "RCPT TO:<bob@two.org>"},
		{cliAt(impl.CliTo, 1, none, none), "", cliAt(impl.CliTo, 2, temp, none), "RCPT TO:<bob@two.org>"},
		{cliAt(impl.CliTo, 2, pass, none), "550 nobody", cliAt(impl.CliData, 2, pass, perm), "DATA"},
		{cliAt(impl.CliTo, 2, perm, none), "250 to", cliAt(impl.CliData, 2, perm, pass), "DATA"},
		{cliAt(impl.CliTo, 2, perm, none), "550 nobody", cliAt(impl.CliBye, 2, perm, perm), "QUIT"},
		{cliAt(impl.CliTo, 2, temp, none), "251 x", cliAt(impl.CliBye, 2, temp, temp), "QUIT"},
		{cliAt(impl.CliTo, 2, done, done), "250 to", cliAt(impl.CliData, 2, done, pass), "DATA"},
		{cliAt(impl.CliTo, 2, none, done), "450 x", cliAt(impl.CliBye, 2, none, temp), "QUIT"},
		{cliAt(impl.CliTo, 2, done, perm), "450 x", cliAt(impl.CliBye, 2, done, temp), "QUIT"},
		{cliAt(impl.CliData, 2, pass, perm), "354 go on", cliAt(impl.CliSent, 2, pass, perm), "hi\r\n..x\r\n.\r\n"},
		{cliAt(impl.CliSent, 2, pass, pass), "250 taken", cliAt(impl.CliBye, 2, done, done), "QUIT"},
		{cliAt(impl.CliSent, 2, none, pass), "250 taken", cliAt(impl.CliBye, 2, none, done), "QUIT"},
		{cliAt(impl.CliSent, 0, temp, perm), "250 taken", cliAt(impl.CliBye, 0, temp, perm), "QUIT"},
		{cliAt(impl.CliFrom, 1, none, none), "250 from", cliAt(impl.CliTo, 2, none, none), "RCPT TO:<bob@two.org>"},
		{cliAt(impl.CliFrom, 2, pass, none), "250 from", cliAt(impl.CliData, 2, pass, none), "DATA"},
		{cliAt(impl.CliFrom, 2, none, done), "250 from", cliAt(impl.CliBye, 2, none, done), "QUIT"},
		{cliAt(impl.CliBye, 2, none, pass), "221 bye", cliAt(impl.CliOver, 2, none, pass), ""},
	}
	for _, c := range cases {
		got, said := impl.CliStep(c.before, c.answer)
		if !sameCli(got, c.after) || said != c.said {
			t.Errorf("CliStep(%s, %q) = %s, %q", cliText(c.before), c.answer, cliText(got), said)
		}
	}
	null := impl.Cli{Name: "me", Mail: impl.Mail{To: []impl.Addr{ann}}, State: impl.CliName, Outs: []int{0}}
	if _, said := impl.CliStep(null, "250 x"); said != "MAIL FROM:<>" {
		t.Errorf("a bounce begins with %q", said)
	}
}

// TestOtherReplies has every state with every reply that it does not expect.
func TestOtherReplies(t *testing.T) {
	expected := map[int]string{impl.CliHello: "220 ", impl.CliName: "250 ", impl.CliFrom: "250 ", impl.CliData: "354 ", impl.CliSent: "250 "}
	eachCli(func(c impl.Cli) {
		good, waits := expected[c.State]
		if !waits {
			return
		}
		for _, answer := range everyReply() {
			if answer == good {
				continue
			}
			want := c
			want.State, want.Outs = impl.CliBye, settled(c.Outs, failureOf(answer))
			got, said := impl.CliStep(c, answer)
			if !sameCli(got, want) || said != "QUIT" {
				t.Errorf("CliStep(%s, %q) = %s, %q", cliText(c), answer, cliText(got), said)
			}
		}
	})
}

func failureOf(answer string) int {
	if strings.HasPrefix(answer, "5") {
		return impl.OutPerm
	}
	return impl.OutTemp
}

func settled(outs []int, final int) []int {
	list := slices.Clone(outs)
	for i, out := range list {
		if out == impl.OutNone || out == impl.OutPass {
			list[i] = final
		}
	}
	return list
}

func TestRepliesForRecipients(t *testing.T) {
	eachCli(func(c impl.Cli) {
		if c.State != impl.CliTo {
			return
		}
		for _, answer := range everyReply() {
			want := c
			want.Outs = slices.Clone(c.Outs)
			want.Outs[c.At-1] = failureOf(answer)
			if answer == "250 " {
				want.Outs[c.At-1] = impl.OutPass
			}
			said := "RCPT TO:<bob@two.org>"
			switch {
			case c.At == 1:
				want.At = 2
			case slices.Contains(want.Outs, impl.OutPass):
				want.State, said = impl.CliData, "DATA"
			default:
				want.State, said = impl.CliBye, "QUIT"
			}
			if got, text := impl.CliStep(c, answer); !sameCli(got, want) || text != said {
				t.Errorf("CliStep(%s, %q) = %s, %q", cliText(c), answer, cliText(got), text)
			}
		}
	})
}

func TestClientThatIsDoneSendsNothing(t *testing.T) {
	eachCli(func(c impl.Cli) {
		if c.State != impl.CliBye && c.State != impl.CliOver {
			return
		}
		for _, answer := range everyReply() {
			want := c
			want.State = impl.CliOver
			if got, said := impl.CliStep(c, answer); !sameCli(got, want) || said != "" {
				t.Errorf("CliStep(%s, %q) = %s, %q", cliText(c), answer, cliText(got), said)
			}
		}
	})
}

// Promise 18.
func TestClientDialogueTerminates(t *testing.T) {
	eachCli(func(c impl.Cli) {
		for _, answer := range []string{"", "220 x", "221 x", "250 x", "354 x", "421 x", "500 x", "599 x", "nonsense"} {
			got, _ := impl.CliStep(c, answer)
			checkClientStep(t, c, got)
			for range 16 {
				next, _ := impl.CliStep(got, answer)
				checkClientStep(t, got, next)
				got = next
			}
			if got.State != impl.CliOver {
				t.Errorf("%s ends in state %d with %q", cliText(c), got.State, answer)
			}
		}
	})
}

func checkClientStep(t *testing.T, before impl.Cli, after impl.Cli) {
	t.Helper()
	if !impl.CliOk(after) || after.Name != before.Name || !sameMail(after.Mail, before.Mail) {
		t.Errorf("%s becomes %s", cliText(before), cliText(after))
		return
	}
	for i, out := range before.Outs {
		asked := before.State == impl.CliTo && i == before.At-1
		if out == impl.OutDone && after.Outs[i] != impl.OutDone && !asked {
			t.Errorf("%s becomes %s", cliText(before), cliText(after))
		}
	}
}

func TestLongestDialogue(t *testing.T) {
	c := impl.CliNew("me", impl.Mail{To: longAddrs})
	answers := slices.Concat([]string{"220 x"}, slices.Repeat([]string{"250 x"}, 6), []string{"354 x", "250 x", "221 x"})
	for i, answer := range answers {
		if c.State == impl.CliOver {
			t.Errorf("it is over before answer %d", i)
		}
		next, said := impl.CliStep(c, answer)
		if len(said)+2 > impl.CommandMax {
			t.Errorf("a command of %d bytes", len(said))
		}
		c = next
	}
	if c.State != impl.CliOver || !slices.Equal(c.Outs, slices.Repeat([]int{impl.OutDone}, impl.ToMax)) {
		t.Errorf("it ends as %s", cliText(c))
	}
}

// Promise 19.
func TestUnknownOutcomesAreTemporaryFailures(t *testing.T) {
	want := []int{impl.OutNone: impl.OutTemp, impl.OutPass: impl.OutTemp, impl.OutDone: impl.OutDone, impl.OutTemp: impl.OutTemp, impl.OutPerm: impl.OutPerm}
	eachCli(func(c impl.Cli) {
		if outs := impl.CliOuts(c); !slices.Equal(outs, []int{want[c.Outs[0]], want[c.Outs[1]]}) {
			t.Errorf("CliOuts(%s) = %v", cliText(c), outs)
		}
	})
}

func TestInvalidClients(t *testing.T) {
	for _, c := range badClis() {
		if outs := impl.CliOuts(c); len(outs) > 0 {
			t.Errorf("CliOuts(%s) = %v", cliText(c), outs)
		}
		for _, answer := range []string{"220 x", "250 x", "354 x", "500 x", ""} {
			if got, said := impl.CliStep(c, answer); !sameCli(got, impl.Cli{}) || said != "" {
				t.Errorf("CliStep(%s, %q) = %s, %q", cliText(c), answer, cliText(got), said)
			}
		}
	}
}

// eachTalk calls f for messages for one to four recipients, each of whom oneConf takes or not, with any number of transmissions.
func eachTalk(f func(m impl.Mail, cut int)) {
	taken := []impl.Addr{ann, dan, eve, cat}
	for n := 1; n <= impl.ToMax; n++ {
		for mask := range 1 << n {
			m := impl.Mail{From: bob, Body: []string{".", "", "x"}}
			for i := range n {
				if mask>>i&1 == 1 {
					m.To = append(m.To, taken[i])
				} else {
					m.To = append(m.To, impl.Addr{User: "zoe", Domain: fmt.Sprintf("no%d.net", i)})
				}
			}
			for cut := range impl.CutMax + 1 {
				f(m, cut)
			}
		}
	}
}

// TestTalkAll counts the transmissions: greeting, HELO, MAIL FROM and each RCPT TO with its reply, DATA with its, the message with its.
func TestTalkAll(t *testing.T) {
	eachTalk(func(m impl.Mail, cut int) {
		asked := 5 + 2*len(m.To)
		accepted := impl.Mail{From: m.From, Body: m.Body}
		var want []int
		for i, a := range m.To {
			out := impl.OutTemp
			switch takes := impl.ConfTakes(oneConf(), a); {
			case takes && cut >= asked+4:
				out = impl.OutDone
			case !takes && cut >= 7+2*i:
				out = impl.OutPerm
			}
			if impl.ConfTakes(oneConf(), a) {
				accepted.To = append(accepted.To, a)
			}
			want = append(want, out)
		}
		var mails []impl.Mail
		if len(accepted.To) > 0 && cut >= asked+3 {
			mails = append(mails, accepted)
		}
		outs, got := impl.TalkAll(oneConf(), "me", m, cut)
		if !slices.Equal(outs, want) || !sameMails(got, mails) {
			t.Errorf("TalkAll(%q, %d) = %v, %q, not %v, %q", m, cut, outs, got, want, mails)
		}
	})
}

// TestLostAnswer is about the answer behind the end of a message: the server has it then, and the client does not know.
func TestLostAnswer(t *testing.T) {
	m := impl.Mail{From: bob, To: []impl.Addr{ann}, Body: []string{"x"}}
	outs := [][]int{{impl.OutTemp}, {impl.OutTemp}, {impl.OutDone}, {impl.OutDone}}
	taken := []int{0, 1, 1, 1}
	for i, cut := range []int{9, 10, 11, impl.CutMax} {
		got, mails := impl.TalkAll(oneConf(), "me", m, cut)
		if !slices.Equal(got, outs[i]) || len(mails) != taken[i] {
			t.Errorf("%d transmissions: %v, %q", cut, got, mails)
		}
	}
}

// Promise 20.
func TestDeliveredMeansAccepted(t *testing.T) {
	eachTalk(func(m impl.Mail, cut int) {
		for _, c := range goodConfs() {
			outs, mails := impl.TalkAll(c, "me", m, cut)
			checkDelivered(t, m, outs, mails)
			if cut < impl.CutMax {
				continue
			}
			for i, a := range m.To {
				if impl.ConfTakes(c, a) != (outs[i] == impl.OutDone) {
					t.Errorf("TalkAll(%q, %q) = %v", c, m, outs)
				}
			}
		}
	})
}

func checkDelivered(t *testing.T, m impl.Mail, outs []int, mails []impl.Mail) {
	t.Helper()
	if len(mails) > 1 || len(outs) != len(m.To) {
		t.Errorf("%q: %v, %q", m, outs, mails)
	}
	for _, got := range mails {
		if got.From != m.From || !slices.Equal(got.Body, m.Body) {
			t.Errorf("%q: accepted is %q", m, got)
		}
	}
	for i, out := range outs {
		if out != impl.OutDone && out != impl.OutTemp && out != impl.OutPerm {
			t.Errorf("%q: %v", m, outs)
		}
		if out == impl.OutDone && (len(mails) == 0 || !slices.Contains(mails[0].To, m.To[i])) {
			t.Errorf("%q: %v, %q", m, outs, mails)
		}
	}
}

func TestTalkAllOfEveryBody(t *testing.T) {
	c := impl.Conf{Name: "hub", Ways: []impl.Way{{End: "org", To: "a"}, {End: "c", To: "a"}, {End: "abcdefg0", To: "a"}, {End: "abcdefg3", To: "a"}}}
	eachGoodMail(func(m impl.Mail) {
		outs, mails := impl.TalkAll(c, "me", m, impl.CutMax)
		checkDelivered(t, m, outs, mails)
		if (len(mails) == 1) != (len(m.Body) < impl.BodyMax) || slices.Contains(outs, impl.OutDone) != (len(mails) == 1) {
			t.Errorf("TalkAll of %q: %v, %q", m, outs, mails)
		}
	})
}

func TestTalkAllAboutTraceLines(t *testing.T) {
	for n := range impl.BodyMax + 1 {
		for _, more := range [][]string{nil, {"x"}, {"x", "Hop: a"}} {
			m := impl.Mail{From: bob, To: []impl.Addr{zoe, ann}, Body: append(hops(n), more...)}
			if len(m.Body) > impl.BodyMax {
				continue
			}
			want, taken := []int{impl.OutPerm, impl.OutPerm}, 0
			if n < impl.HopMax && len(m.Body) < impl.BodyMax {
				want[1], taken = impl.OutDone, 1
			}
			if outs, mails := impl.TalkAll(oneConf(), "me", m, impl.CutMax); !slices.Equal(outs, want) || len(mails) != taken {
				t.Errorf("TalkAll of %q: %v, %q", m, outs, mails)
			}
		}
	}
}

// Promise 21.
func TestMoreTransmissionsGiveMoreCertainty(t *testing.T) {
	var before []int
	count := 0
	eachTalk(func(m impl.Mail, cut int) {
		m.Body = append(hops(len(m.To)), m.Body...)
		outs, mails := impl.TalkAll(oneConf(), "me", m, cut)
		for i, out := range before {
			if cut > 0 && (out == impl.OutDone || out == impl.OutPerm) && outs[i] != out {
				t.Errorf("TalkAll(%q, %d) = %v after %v", m, cut, outs, before)
			}
		}
		if cut > 0 && len(mails) < count {
			t.Errorf("TalkAll(%q, %d) = %q after %d", m, cut, mails, count)
		}
		before, count = outs, len(mails)
	})
}

func TestTalkAllOfInvalidArguments(t *testing.T) {
	check := func(c impl.Conf, name string, m impl.Mail, cut int) {
		t.Helper()
		if outs, mails := impl.TalkAll(c, name, m, cut); len(outs) > 0 || len(mails) > 0 {
			t.Errorf("TalkAll(%.200q, %.60q, %.200q, %d) = %v, %q", c, name, m, cut, outs, mails)
		}
	}
	for _, cut := range []int{-1, -1 << 63, impl.CutMax + 1, 1<<63 - 1} {
		check(oneConf(), "me", letter(), cut)
	}
	for _, cut := range []int{0, impl.CutMax} {
		for _, c := range badConfs() {
			check(c, "me", letter(), cut)
		}
		for _, name := range badDomains {
			check(oneConf(), name, letter(), cut)
		}
		eachBadMail(func(m impl.Mail) { check(oneConf(), "me", m, cut) })
	}
}
