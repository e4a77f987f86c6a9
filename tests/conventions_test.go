package tests

import (
	"slices"
	"strings"
	"testing"

	"loop.example/satchel/impl"
)

// These tests show the general conventions of the specification at some inputs: a function answers for every
// argument, keeps nothing from call to call, writes into no argument, and gives out memory of its own.

// TestConstants has the limits, states and outcomes of the chapters that are built, as the specification gives them.
func TestConstants(t *testing.T) {
	limits := []int{
		impl.WordMax, impl.LabelsMax, impl.LineMax, impl.BodyMax, impl.ToMax, impl.FeedMax,
		impl.OwnMax, impl.WaysMax, impl.HopMax, impl.CommandMax, impl.CutMax,
	}
	if !slices.Equal(limits, []int{8, 3, 40, 12, 4, 800, 3, 4, 4, 80, 40}) {
		t.Errorf("the limits are %v", limits)
	}
	counted := [][]int{
		{impl.SessNew, impl.SessReady, impl.SessMail, impl.SessRcpt, impl.SessData, impl.SessOver},
		{impl.CliHello, impl.CliName, impl.CliFrom, impl.CliTo, impl.CliData, impl.CliSent, impl.CliBye, impl.CliOver},
		{impl.OutNone, impl.OutPass, impl.OutDone, impl.OutTemp, impl.OutPerm},
	}
	for _, list := range counted {
		for i, n := range list {
			if n != i {
				t.Errorf("%v does not count from 0", list)
			}
		}
	}
}

func oddTexts() []string {
	huge := strings.Repeat("\r\n", 100000)
	list := []string{"", "\x00", "\xff\xfe", "\r", "\n", huge, "<" + huge + ">", "from <>" + huge, "." + huge, strings.Repeat(".", 100000)}
	for _, more := range [][]string{goodDomains, badDomains, badAddrTexts} {
		list = append(list, more...)
	}
	return list
}

func TestFunctionsOfTextsAnswer(t *testing.T) {
	for _, s := range oddTexts() {
		mustNotPanic(t, s, func() {
			impl.DomainOk(s)
			impl.DomainIn(s, s)
			impl.DomainIn("a", s)
			impl.DomainIn(s, "a")
			impl.AddrGet(s)
			impl.LinesOf(s)
			impl.DotGet(s)
			impl.MailGet(s)
			impl.AddrOk(impl.Addr{User: s, Domain: s})
			impl.AddrPut(impl.Addr{User: s, Domain: s})
			impl.HopPut(s, []string{s})
			impl.HopsOf([]string{s})
			impl.DotPut([]string{s})
			impl.MailPut(impl.Mail{To: []impl.Addr{{User: s, Domain: s}}, Body: []string{s}})
			impl.ReplyCode(s)
			impl.WayOf(oneConf(), s)
			impl.ConfTakes(oneConf(), impl.Addr{User: s, Domain: s})
			impl.SessHello(impl.Conf{Name: s, Own: []string{s}, Ways: []impl.Way{{End: s, To: s}}})
			impl.CliNew(s, letter())
			impl.TalkAll(oneConf(), s, letter(), impl.CutMax)
		})
	}
}

func TestDialoguesAnswer(t *testing.T) {
	for _, s := range append(oddTexts(), someLines()...) {
		for _, x := range append(goodSesses(), badSesses()...) {
			mustNotPanic(t, s, func() {
				impl.SessOk(x)
				impl.SessStep(oneConf(), x, s)
				impl.SessStep(impl.Conf{}, x, s)
				impl.SessFeed(oneConf(), x, s)
				impl.SessFeed(oneConf(), x, s+crlf)
			})
		}
		eachCli(func(c impl.Cli) {
			mustNotPanic(t, s, func() { impl.CliStep(c, s) })
		})
	}
	for _, c := range badClis() {
		mustNotPanic(t, "a client that is not valid", func() {
			impl.CliOk(c)
			impl.CliOuts(c)
			impl.CliStep(c, "250 x")
		})
	}
}

func TestFunctionsOfMessagesAnswer(t *testing.T) {
	answer := func(m impl.Mail) {
		mustNotPanic(t, "a function of a message", func() {
			impl.MailOk(m)
			impl.MailPut(m)
			impl.DotPut(m.Body)
			impl.HopsOf(m.Body)
			impl.HopPut("a", m.Body)
		})
	}
	eachGoodMail(answer)
	eachBadMail(answer)
	answer(impl.Mail{To: make([]impl.Addr, 100000), Body: make([]string, 100000)})
}

func TestNoArgumentIsWrittenTo(t *testing.T) {
	eachGoodMail(func(m impl.Mail) {
		m.To, m.Body = roomy(m.To, ann, bob), roomy(m.Body, "spare", ".spare")
		to, body := slices.Clone(m.To[:cap(m.To)]), slices.Clone(m.Body[:cap(m.Body)])
		impl.MailOk(m)
		impl.MailPut(m)
		impl.DotPut(m.Body)
		impl.HopsOf(m.Body)
		impl.HopPut("one.org", m.Body)
		if !slices.Equal(m.To[:cap(m.To)], to) || !slices.Equal(m.Body[:cap(m.Body)], body) {
			t.Errorf("an argument was changed: %q", m)
		}
	})
}

// roomyConf, roomySess and roomyCli have spare capacity in each slice, with something in it.
func roomyConf() impl.Conf {
	c := oneConf()
	c.Own, c.Ways = roomy(c.Own, "spare"), roomy(c.Ways, impl.Way{End: "spare", To: "spare"})
	return c
}

func roomySess(state int) impl.Sess {
	s := fullSess(state)
	s.Mail = roomyMail(s.Mail)
	return s
}

func roomyCli(state int) impl.Cli {
	c := cliAt(state, 1, impl.OutPass, impl.OutNone)
	c.Mail, c.Outs = roomyMail(c.Mail), roomy(c.Outs, 9, 9)
	return c
}

func roomyMail(m impl.Mail) impl.Mail {
	m.To, m.Body = roomy(m.To, zoe, zoe), roomy(m.Body, "spare", "spare")
	return m
}

// wholeMail is m with what is in its spare capacity.
func wholeMail(m impl.Mail) impl.Mail {
	m.To, m.Body = slices.Clone(m.To[:cap(m.To)]), slices.Clone(m.Body[:cap(m.Body)])
	return m
}

func overwriteMails(list ...impl.Mail) {
	for _, m := range list {
		overwrite(m.To, eve)
		overwrite(m.Body, "changed")
	}
}

func TestConfigurationIsNotWrittenTo(t *testing.T) {
	c := roomyConf()
	impl.ConfOk(c)
	impl.WayOf(c, "two.org")
	impl.ConfTakes(c, ann)
	impl.SessHello(c)
	impl.SessStep(c, fullSess(impl.SessNew), "HELO me")
	impl.SessFeed(c, impl.Sess{}, toData+".\r\n")
	impl.TalkAll(c, "me", letter(), impl.CutMax)
	want := roomyConf()
	if !slices.Equal(c.Own[:cap(c.Own)], want.Own[:cap(want.Own)]) || !slices.Equal(c.Ways[:cap(c.Ways)], want.Ways[:cap(want.Ways)]) {
		t.Errorf("an argument was changed: %q", c)
	}
}

// TestServerHasMemoryOfItsOwn overwrites all that a server returns, and looks whether the dialogue changes from which it came.
func TestServerHasMemoryOfItsOwn(t *testing.T) {
	for state := impl.SessNew; state <= impl.SessOver; state++ {
		for _, line := range append(someLines(), "RCPT TO:<dan@one.org>") {
			s := roomySess(state)
			s.Bad, s.Buf = false, ""
			before := wholeMail(s.Mail)
			next, _, mails := impl.SessStep(oneConf(), s, line)
			overwriteMails(append(mails, next.Mail)...)
			after, replies, more := impl.SessFeed(oneConf(), s, line+crlf)
			overwriteMails(append(more, after.Mail)...)
			overwrite(replies, "changed")
			if !sameMail(wholeMail(s.Mail), before) {
				t.Errorf("%q in state %d changes the argument: %q", line, state, wholeMail(s.Mail))
			}
		}
	}
	s, replies, mails := impl.SessFeed(oneConf(), impl.Sess{}, toData+"x\r\n.\r\n"+toData+"y\r\n.\r\n"+toData+"z\r\n")
	want := []impl.Mail{{From: bob, To: []impl.Addr{ann}, Body: []string{"y"}}, {From: bob, To: []impl.Addr{ann}, Body: []string{"z"}}}
	overwriteMails(mails[0])
	overwrite(replies, "changed")
	if !sameMail(mails[1], want[0]) || !sameMail(s.Mail, want[1]) {
		t.Errorf("one message changed with another: %q, %q", mails[1], s.Mail)
	}
}

func TestClientHasMemoryOfItsOwn(t *testing.T) {
	for state := impl.CliHello; state <= impl.CliOver; state++ {
		for _, answer := range []string{"220 x", "250 x", "354 x", "500 x", ""} {
			c := roomyCli(state)
			mail, outs := wholeMail(c.Mail), slices.Clone(c.Outs[:cap(c.Outs)])
			next, _ := impl.CliStep(c, answer)
			overwriteMails(next.Mail)
			overwrite(next.Outs, 9)
			overwrite(impl.CliOuts(c), 9)
			impl.CliOk(c)
			if !sameMail(wholeMail(c.Mail), mail) || !slices.Equal(c.Outs[:cap(c.Outs)], outs) {
				t.Errorf("%q in state %d changes the argument: %s", answer, state, cliText(c))
			}
		}
	}
	m := roomyMail(letter())
	before := wholeMail(m)
	c := impl.CliNew("me", m)
	overwriteMails(c.Mail)
	outs, mails := impl.TalkAll(oneConf(), "me", m, impl.CutMax)
	overwriteMails(mails...)
	overwrite(outs, 9)
	if !sameMail(wholeMail(m), before) {
		t.Errorf("the message changed with a result: %q", wholeMail(m))
	}
}

func TestHopPutGivesMemoryOfItsOwn(t *testing.T) {
	list := roomy([]string{"a", "b"}, "spare", "spare")
	whole := slices.Clone(list[:cap(list)])
	got, _ := impl.HopPut("one.org", list)
	again, _ := impl.HopPut("one.org", list)
	overwrite(got, "changed")
	if !slices.Equal(list[:cap(list)], whole) {
		t.Errorf("the argument changed with the result: %q", list[:cap(list)])
	}
	if !slices.Equal(again, []string{"Hop: one.org", "a", "b"}) {
		t.Errorf("one result changed with another: %q", again)
	}
}

func TestReadersGiveMemoryOfTheirOwn(t *testing.T) {
	text := "from <>\r\nto <ann@one.org>\r\nto <bob@two.org>\r\n\r\nx\r\n..y\r\n.\r\n"
	first, _ := impl.MailGet(text)
	second, _ := impl.MailGet(text)
	overwrite(first.To, eve)
	overwrite(first.Body, "changed")
	if want := (impl.Mail{To: []impl.Addr{ann, bob}, Body: []string{"x", ".y"}}); !sameMail(second, want) {
		t.Errorf("one result changed with another: %q", second)
	}
	list, _ := impl.DotGet("x\r\n..y\r\n.\r\n")
	twin, _ := impl.DotGet("x\r\n..y\r\n.\r\n")
	overwrite(list, "changed")
	if !slices.Equal(twin, []string{"x", ".y"}) {
		t.Errorf("one result changed with another: %q", twin)
	}
	lines, _ := impl.LinesOf("x\r\ny\r\n")
	same, _ := impl.LinesOf("x\r\ny\r\n")
	overwrite(lines, "changed")
	if !slices.Equal(same, []string{"x", "y"}) {
		t.Errorf("one result changed with another: %q", same)
	}
}

// overwrite changes list and its spare capacity.
func overwrite[T any](list []T, x T) {
	list = list[:cap(list)]
	for i := range list {
		list[i] = x
	}
}
