package tests

import (
	"fmt"
	"reflect"
	"slices"
	"strings"
	"testing"

	"loop.example/satchel/impl"
)

// These tests show the general conventions of the specification at some inputs: a function answers for every
// argument, keeps nothing from call to call, writes into no argument, and gives out memory of its own.

// TestConstants has the limits, states and outcomes of the chapters that are built, as the specification gives them.
func TestConstants(t *testing.T) {
	limits := []int{
		impl.WordMax, impl.LabelsMax, impl.LineMax, impl.BodyMax, impl.ToMax, impl.FeedMax,
		impl.OwnMax, impl.WaysMax, impl.HopMax, impl.CommandMax, impl.CutMax,
		impl.TriesMax, impl.TimeMax, impl.IdMax, impl.SpoolMax, impl.PauseFirst, impl.JourMax,
		impl.HostsMax, impl.MarkMax, impl.TickMax, impl.PlayMax, impl.CalmMax, impl.SessionMax,
		impl.CodeMax, impl.AliasMax, impl.RulesMax,
	}
	if !slices.Equal(limits, []int{8, 3, 40, 12, 4, 800, 3, 4, 4, 80, 40, 4, 9999, 999, 10, 2, 12000, 4, 60, 40, 40, 40, 50, 240, 6, 5}) {
		t.Errorf("the limits are %v", limits)
	}
	counted := [][]int{
		{impl.SessNew, impl.SessReady, impl.SessMail, impl.SessRcpt, impl.SessData, impl.SessOver},
		{impl.CliHello, impl.CliName, impl.CliFrom, impl.CliTo, impl.CliData, impl.CliSent, impl.CliBye, impl.CliOver},
		{impl.OutNone, impl.OutPass, impl.OutDone, impl.OutTemp, impl.OutPerm},
		{0, impl.NoteAdd, impl.NoteDone, impl.NoteLater},
		{0, impl.EventSubmit, impl.EventTry, impl.EventGone, impl.EventKeep, impl.EventTick},
		{0, impl.AskFrom, impl.AskLine, impl.AskNull, impl.AskAll},
		{0, impl.DoKeep, impl.DoDrop, impl.DoSend},
	}
	for _, list := range counted {
		for i, n := range list {
			if n != i {
				t.Errorf("%v does not count from 0", list)
			}
		}
	}
}

func oddTexts() []string {
	huge := strings.Repeat("\r\n", 100000)
	list := []string{"", "\x00", "\xff\xfe", "\r", "\n", huge, "<" + huge + ">", "from <>" + huge, "." + huge, strings.Repeat(".", 100000)}
	for _, more := range [][]string{goodDomains, badDomains, badAddrTexts} {
		list = append(list, more...)
	}
	return list
}

func TestFunctionsOfTextsAnswer(t *testing.T) {
	for _, s := range oddTexts() {
		mustNotPanic(t, s, func() {
			impl.DomainOk(s)
			impl.DomainIn(s, s)
			impl.DomainIn("a", s)
			impl.DomainIn(s, "a")
			impl.AddrGet(s)
			impl.LinesOf(s)
			impl.DotGet(s)
			impl.MailGet(s)
			impl.AddrOk(impl.Addr{User: s, Domain: s})
			impl.AddrPut(impl.Addr{User: s, Domain: s})
			impl.HopPut(s, []string{s})
			impl.HopsOf([]string{s})
			impl.DotPut([]string{s})
			impl.MailPut(impl.Mail{To: []impl.Addr{{User: s, Domain: s}}, Body: []string{s}})
			impl.ReplyCode(s)
			impl.WayOf(oneConf(), s)
			impl.ConfTakes(oneConf(), impl.Addr{User: s, Domain: s})
			impl.SessHello(impl.Conf{Name: s, Own: []string{s}, Ways: []impl.Way{{End: s, To: s}}})
			impl.CliNew(s, letter())
			impl.TalkAll(oneConf(), s, letter(), impl.CutMax)
			impl.Crc(s)
			impl.NoteGet(s)
			impl.JourRead(s)
			impl.JourAdd(s, laterNote(1, ann, 3))
			impl.JourTear(s, addNote(letter(), 3), 5)
			impl.MarkOf([]string{s})
			impl.BounceOf(item(1, rcpt(ann, 0, 0)), impl.Addr{User: s, Domain: s})
			impl.HostPart(oneHost(), 2, s, 20)
			impl.LookBox(fullWorld(), impl.Addr{User: s, Domain: s})
			impl.LookWay(twoHosts(), s, s)
			impl.LookWay(twoHosts(), "one.org", s)
			impl.Session([]string{s})
			impl.CodePut(s)
			impl.CodeGet(s)
			impl.QuotePut(s)
			impl.QuoteGet(s)
			impl.LinesPut(s)
			impl.LinesGet([]string{s})
			impl.LinesGet([]string{s, "QUJD", s})
			impl.AliasFor(goodAliases()[2], impl.Addr{User: s, Domain: s})
			impl.AliasFor([]impl.Alias{{From: impl.Addr{User: s, Domain: s}, To: []impl.Addr{{User: s, Domain: s}}}}, ann)
			impl.SieveFor([]impl.Rule{keeping(impl.AskFrom, s)}, letter())
			impl.SieveDo([]impl.Rule{dropping(impl.AskLine, s)}, impl.Mail{From: ann, To: []impl.Addr{bob}, Body: []string{s}})
		})
	}
}

// TestSessionsAnswer has odd texts in the place of each word.
func TestSessionsAnswer(t *testing.T) {
	lines := append(pair().lines(), "host one.org - a=b", "mail 0 40 <a@one.org> <b@two.org> x", "try 0 1 1 40", "gone 0 1", "keep 0", "tick 1", "calm 1", "many", "kept", "box <b@two.org>")
	for _, odd := range append(oddTexts(), strings.Repeat(" ", 100000), strings.Repeat(",", 100000), strings.Repeat(" a=b", 100000), "9223372036854775808", "-9223372036854775808") {
		for _, line := range lines {
			words := strings.Split(line, " ")
			for i := range words {
				spoilt := slices.Clone(words)
				spoilt[i] = odd
				mustNotPanic(t, line, func() {
					impl.Session([]string{strings.Join(spoilt, " "), line, strings.Join(spoilt, " ")})
					impl.Session(append(pair().lines(), lines[3], strings.Join(spoilt, " "), "many", line+odd, odd+line, "kept"))
				})
			}
		}
	}
	mustNotPanic(t, "many lines", func() { impl.Session(make([]string, 100000)) })
}

func TestSessionWritesIntoNoArgument(t *testing.T) {
	eachSession(40, func(lines []string) {
		lines = roomyCopy(lines)
		first := impl.Session(lines)
		checkCall(t, "Session", []any{lines}, func() []any { return []any{impl.Session(lines)} })
		impl.Session(pair().lines())
		if again := impl.Session(lines); again != first {
			t.Errorf("%q puts out %q, and then %q", lines, first, again)
		}
	})
}

func TestDialoguesAnswer(t *testing.T) {
	for _, s := range append(oddTexts(), someLines()...) {
		for _, x := range append(goodSesses(), badSesses()...) {
			mustNotPanic(t, s, func() {
				impl.SessOk(x)
				impl.SessStep(oneConf(), x, s)
				impl.SessStep(impl.Conf{}, x, s)
				impl.SessFeed(oneConf(), x, s)
				impl.SessFeed(oneConf(), x, s+crlf)
			})
		}
		eachCli(func(c impl.Cli) {
			mustNotPanic(t, s, func() { impl.CliStep(c, s) })
		})
	}
	for _, c := range badClis() {
		mustNotPanic(t, "a client that is not valid", func() {
			impl.CliOk(c)
			impl.CliOuts(c)
			impl.CliStep(c, "250 x")
		})
	}
}

func TestSpoolsAnswer(t *testing.T) {
	extremes := []int{-1 << 63, -1, 0, 1, impl.TriesMax, impl.IdMax, impl.TimeMax, 1<<63 - 1}
	spools := append(badSpools(), oneSpool(), spoolOf(1<<63-1, item(1<<63-1, rcpt(ann, 1<<63-1, 1<<63-1))), impl.Spool{Items: make([]impl.Item, 10000)})
	for _, s := range spools {
		for _, n := range extremes {
			mustNotPanic(t, spoolText(s), func() {
				impl.SpoolOk(s)
				impl.SpoolMany(s)
				impl.SpoolDue(s, n)
				impl.SpoolPause(n)
				impl.SpoolAdd(s, impl.Mail{}, n)
				impl.SpoolDone(s, n, badAddrs[0])
				impl.SpoolLater(s, n, ann, n)
				impl.NoteDo(s, impl.Note{Kind: n, Id: n, Addr: ann, Now: n})
			})
		}
	}
	for _, n := range badNotes() {
		for _, bytes := range extremes {
			mustNotPanic(t, noteText(n), func() {
				impl.NoteOk(n)
				impl.NotePut(n)
				impl.JourAdd("", n)
				impl.JourTear("", n, bytes)
				impl.JourTear("", addNote(letter(), 3), bytes)
			})
		}
	}
}

func TestHostsAnswer(t *testing.T) {
	extremes := []int{-1 << 63, -1, 0, 1, impl.IdMax, impl.TimeMax, 1<<63 - 1}
	for _, h := range append(badHosts(), oneHost()) {
		name := hostText(h)
		for _, n := range extremes {
			mustNotPanic(t, name, func() {
				impl.HostOk(h)
				impl.HostNew(h.Conf)
				impl.HostTake(h, impl.Mail{To: []impl.Addr{ann}}, n)
				impl.HostOut(h, n, ann, n, n)
				impl.HostOut(h, n, ann, impl.OutPerm, n)
				impl.HostPart(h, n, "", n)
				impl.HostKeep(h, n)
				for _, x := range h.Spool.Items[:min(2, len(h.Spool.Items))] {
					impl.BounceOf(x, ann)
					impl.MarkOf(x.Body)
				}
			})
		}
	}
}

func TestWorldsAnswer(t *testing.T) {
	extremes := []int{-1 << 63, -1, 0, 1, 2, impl.TickMax, 1<<63 - 1}
	for _, w := range append(badWorlds(), busyWorlds()...) {
		name := worldText(w)
		for _, n := range extremes {
			mustNotPanic(t, name, func() {
				impl.WorldOk(w)
				impl.WorldKept(w)
				impl.WorldCalm(w, n)
				impl.LookMany(w)
				impl.LookBox(w, ann)
				impl.LookTwice(w)
				for kind := range 7 {
					impl.WorldDo(w, impl.Event{Kind: kind, Host: n, To: n, Id: n, Cut: n, Mail: impl.Mail{}})
					impl.WorldDo(w, impl.Event{Kind: kind, To: 1, Id: n, Cut: n, Lose: true, Mail: letter()})
				}
			})
		}
	}
	for _, list := range badLists() {
		mustNotPanic(t, "a list of configurations that is not valid", func() {
			impl.WorldNew(list)
			impl.WorldPlay(list, []impl.Event{tick(1), submit(0, impl.CutMax, letter())})
			impl.LookWay(list, "a", "a")
		})
	}
}

func TestAliasesAnswer(t *testing.T) {
	answer := func(list []impl.Alias, m impl.Mail) {
		mustNotPanic(t, "a function of aliases", func() {
			impl.AliasOk(list)
			impl.AliasRound(list)
			impl.AliasFlat(list)
			impl.AliasMail(list, m)
			for _, a := range append(badAddrs, ann, impl.Addr{}) {
				impl.AliasFor(list, a)
			}
		})
	}
	for _, list := range append(goodAliases(), badAliases()...) {
		answer(list, letter())
		answer(list, impl.Mail{})
	}
	eachBadMail(func(m impl.Mail) { answer(goodAliases()[4], m) })
}

func TestSievesAnswer(t *testing.T) {
	answer := func(list []impl.Rule, m impl.Mail) {
		mustNotPanic(t, "a function of rules", func() {
			impl.SieveOk(list)
			impl.SieveFor(list, m)
			impl.SieveDo(list, m)
			impl.SieveTidy(list)
		})
	}
	for _, r := range append(goodRules(), badRules()...) {
		answer([]impl.Rule{r}, letter())
		answer([]impl.Rule{r, r}, impl.Mail{})
		answer(slices.Repeat([]impl.Rule{r}, impl.RulesMax+1), mailFrom("", "x"))
	}
	eachBadMail(func(m impl.Mail) { answer(goodRules()[:impl.RulesMax], m) })
}

func TestFunctionsOfMessagesAnswer(t *testing.T) {
	answer := func(m impl.Mail) {
		mustNotPanic(t, "a function of a message", func() {
			impl.MailOk(m)
			impl.MailPut(m)
			impl.DotPut(m.Body)
			impl.HopsOf(m.Body)
			impl.HopPut("a", m.Body)
		})
	}
	eachGoodMail(answer)
	eachBadMail(answer)
	answer(impl.Mail{To: make([]impl.Addr, 100000), Body: make([]string, 100000)})
}

func TestNoArgumentIsWrittenTo(t *testing.T) {
	eachGoodMail(func(m impl.Mail) {
		m.To, m.Body = roomy(m.To, ann, bob), roomy(m.Body, "spare", ".spare")
		to, body := slices.Clone(m.To[:cap(m.To)]), slices.Clone(m.Body[:cap(m.Body)])
		impl.MailOk(m)
		impl.MailPut(m)
		impl.DotPut(m.Body)
		impl.HopsOf(m.Body)
		impl.HopPut("one.org", m.Body)
		if !slices.Equal(m.To[:cap(m.To)], to) || !slices.Equal(m.Body[:cap(m.Body)], body) {
			t.Errorf("an argument was changed: %q", m)
		}
	})
}

// roomyConf, roomySess and roomyCli have spare capacity in each slice, with something in it.
func roomyConf() impl.Conf {
	c := oneConf()
	c.Own, c.Ways = roomy(c.Own, "spare"), roomy(c.Ways, impl.Way{End: "spare", To: "spare"})
	return c
}

func roomySess(state int) impl.Sess {
	s := fullSess(state)
	s.Mail = roomyMail(s.Mail)
	return s
}

func roomyCli(state int) impl.Cli {
	c := cliAt(state, 1, impl.OutPass, impl.OutNone)
	c.Mail, c.Outs = roomyMail(c.Mail), roomy(c.Outs, 9, 9)
	return c
}

func roomyMail(m impl.Mail) impl.Mail {
	m.To, m.Body = roomy(m.To, zoe, zoe), roomy(m.Body, "spare", "spare")
	return m
}

// wholeMail is m with what is in its spare capacity.
func wholeMail(m impl.Mail) impl.Mail {
	m.To, m.Body = slices.Clone(m.To[:cap(m.To)]), slices.Clone(m.Body[:cap(m.Body)])
	return m
}

func overwriteMails(list ...impl.Mail) {
	for _, m := range list {
		overwrite(m.To, eve)
		overwrite(m.Body, "changed")
	}
}

func TestConfigurationIsNotWrittenTo(t *testing.T) {
	c := roomyConf()
	impl.ConfOk(c)
	impl.WayOf(c, "two.org")
	impl.ConfTakes(c, ann)
	impl.SessHello(c)
	impl.SessStep(c, fullSess(impl.SessNew), "HELO me")
	impl.SessFeed(c, impl.Sess{}, toData+".\r\n")
	impl.TalkAll(c, "me", letter(), impl.CutMax)
	want := roomyConf()
	if !slices.Equal(c.Own[:cap(c.Own)], want.Own[:cap(want.Own)]) || !slices.Equal(c.Ways[:cap(c.Ways)], want.Ways[:cap(want.Ways)]) {
		t.Errorf("an argument was changed: %q", c)
	}
}

// TestServerHasMemoryOfItsOwn overwrites all that a server returns, and looks whether the dialogue changes from which it came.
func TestServerHasMemoryOfItsOwn(t *testing.T) {
	for state := impl.SessNew; state <= impl.SessOver; state++ {
		for _, line := range append(someLines(), "RCPT TO:<dan@one.org>") {
			s := roomySess(state)
			s.Bad, s.Buf = false, ""
			before := wholeMail(s.Mail)
			next, _, mails := impl.SessStep(oneConf(), s, line)
			overwriteMails(append(mails, next.Mail)...)
			after, replies, more := impl.SessFeed(oneConf(), s, line+crlf)
			overwriteMails(append(more, after.Mail)...)
			overwrite(replies, "changed")
			if !sameMail(wholeMail(s.Mail), before) {
				t.Errorf("%q in state %d changes the argument: %q", line, state, wholeMail(s.Mail))
			}
		}
	}
	s, replies, mails := impl.SessFeed(oneConf(), impl.Sess{}, toData+"x\r\n.\r\n"+toData+"y\r\n.\r\n"+toData+"z\r\n")
	want := []impl.Mail{{From: bob, To: []impl.Addr{ann}, Body: []string{"y"}}, {From: bob, To: []impl.Addr{ann}, Body: []string{"z"}}}
	overwriteMails(mails[0])
	overwrite(replies, "changed")
	if !sameMail(mails[1], want[0]) || !sameMail(s.Mail, want[1]) {
		t.Errorf("one message changed with another: %q, %q", mails[1], s.Mail)
	}
}

func TestClientHasMemoryOfItsOwn(t *testing.T) {
	for state := impl.CliHello; state <= impl.CliOver; state++ {
		for _, answer := range []string{"220 x", "250 x", "354 x", "500 x", ""} {
			c := roomyCli(state)
			mail, outs := wholeMail(c.Mail), slices.Clone(c.Outs[:cap(c.Outs)])
			next, _ := impl.CliStep(c, answer)
			overwriteMails(next.Mail)
			overwrite(next.Outs, 9)
			overwrite(impl.CliOuts(c), 9)
			impl.CliOk(c)
			if !sameMail(wholeMail(c.Mail), mail) || !slices.Equal(c.Outs[:cap(c.Outs)], outs) {
				t.Errorf("%q in state %d changes the argument: %s", answer, state, cliText(c))
			}
		}
	}
	m := roomyMail(letter())
	before := wholeMail(m)
	c := impl.CliNew("me", m)
	overwriteMails(c.Mail)
	outs, mails := impl.TalkAll(oneConf(), "me", m, impl.CutMax)
	overwriteMails(mails...)
	overwrite(outs, 9)
	if !sameMail(wholeMail(m), before) {
		t.Errorf("the message changed with a result: %q", wholeMail(m))
	}
}

// roomySpool has spare capacity in each slice, with something in it.
func roomySpool() impl.Spool {
	s := oneSpool()
	for i, x := range s.Items {
		s.Items[i].To, s.Items[i].Body = roomy(x.To, rcpt(zoe, 1, 1), rcpt(zoe, 2, 2)), roomy(x.Body, "spare", "spare")
	}
	s.Items = roomy(s.Items, item(9, rcpt(zoe, 0, 0)), item(9, rcpt(zoe, 0, 0)))
	return s
}

// wholeSpool is s with what is in its spare capacity.
func wholeSpool(s impl.Spool) impl.Spool {
	s.Items = slices.Clone(s.Items[:cap(s.Items)])
	for i, x := range s.Items {
		s.Items[i].To, s.Items[i].Body = slices.Clone(x.To[:cap(x.To)]), slices.Clone(x.Body[:cap(x.Body)])
	}
	return s
}

func overwriteSpool(s impl.Spool) {
	for _, x := range s.Items[:cap(s.Items)] {
		overwrite(x.To, rcpt(eve, 9, 9))
		overwrite(x.Body, "changed")
	}
	overwrite(s.Items, item(9))
}

// checkSlicesApart overwrites each slice of s up to its capacity, and looks whether another one changes.
func checkSlicesApart(t *testing.T, s impl.Spool) {
	t.Helper()
	for i := range s.Items {
		want := copyOfSpool(s)
		want.Items[i].To = slices.Repeat([]impl.Rcpt{rcpt(eve, 9, 9)}, len(s.Items[i].To))
		want.Items[i].Body = slices.Repeat([]string{"changed"}, len(s.Items[i].Body))
		overwrite(s.Items[i].To, rcpt(eve, 9, 9))
		overwrite(s.Items[i].Body, "changed")
		if !sameSpool(s, want) {
			t.Errorf("one slice changed with another: %s", spoolText(s))
		}
	}
}

// spoolsFrom are the results of every function that gives out a spool, for arguments with which it succeeds or fails.
func spoolsFrom(s impl.Spool, m impl.Mail) []impl.Spool {
	var list []impl.Spool
	for _, now := range []int{5, -1} {
		added, _ := impl.SpoolAdd(s, m, now)
		later, _ := impl.SpoolLater(s, 4, bob, now)
		noted, _ := impl.NoteDo(s, addNote(m, now))
		list = append(list, added, later, noted)
	}
	for _, a := range []impl.Addr{ann, bob, zoe} {
		for _, id := range []int{2, 4, 8} {
			done, _ := impl.SpoolDone(s, id, a)
			noted, _ := impl.NoteDo(s, doneNote(id, a))
			later, _ := impl.NoteDo(s, laterNote(id, a, 3))
			list = append(list, done, noted, later)
		}
	}
	failed, _ := impl.NoteDo(s, impl.Note{})
	return append(list, failed)
}

func TestSpoolHasMemoryOfItsOwn(t *testing.T) {
	s, m := roomySpool(), roomyMail(letter())
	items, mail := wholeSpool(s), wholeMail(m)
	for _, got := range spoolsFrom(s, m) {
		overwriteSpool(got)
	}
	overwrite(impl.SpoolDue(s, impl.TimeMax), 0)
	impl.SpoolOk(s)
	impl.SpoolMany(s)
	if !sameSpool(wholeSpool(s), items) || !sameMail(wholeMail(m), mail) {
		t.Errorf("an argument changed with a result: %s, %q", spoolText(wholeSpool(s)), wholeMail(m))
	}
	for _, got := range spoolsFrom(roomySpool(), m) {
		checkSlicesApart(t, got)
	}
}

func TestJournalHasMemoryOfItsOwn(t *testing.T) {
	j, _ := journalOf(story()[:3])
	first, _ := impl.JourRead(j)
	overwriteSpool(first)
	second, _ := impl.JourRead(j)
	if !sameSpool(second, spoolAfter(t, story()[:3])) {
		t.Errorf("one result changed with another: %s", spoolText(second))
	}
	checkSlicesApart(t, second)
	n, mail := addNote(roomyMail(letter()), 3), wholeMail(roomyMail(letter()))
	text := impl.NotePut(n)
	impl.NoteOk(n)
	impl.JourAdd(j, n)
	impl.JourTear(j, n, 9)
	got, _ := impl.NoteGet(text)
	overwriteMails(got.Mail)
	again, _ := impl.NoteGet(text)
	if !sameMail(wholeMail(n.Mail), mail) || !sameNote(again, n) {
		t.Errorf("a note changed with a result: %s, %s", noteText(n), noteText(again))
	}
}

// span is the memory of a slice, with its spare capacity.
type span struct {
	from, to uintptr
}

// spansOf are the spans of all slices in v, also of those in spare capacity.
func spansOf(v reflect.Value) []span {
	var list []span
	switch v.Kind() {
	case reflect.Slice:
		if v.Cap() == 0 {
			return nil
		}
		list = append(list, span{v.Pointer(), v.Pointer() + uintptr(v.Cap())*v.Type().Elem().Size()})
		for i := range v.Cap() {
			list = append(list, spansOf(v.Slice(0, v.Cap()).Index(i))...)
		}
	case reflect.Struct:
		for i := range v.NumField() {
			list = append(list, spansOf(v.Field(i))...)
		}
	}
	return list
}

// checkApart looks whether any two slices of the results overlap, or one of them and one of the arguments.
func checkApart(t *testing.T, name string, args []any, results []any) {
	t.Helper()
	var given, own []span
	for _, x := range args {
		given = append(given, spansOf(reflect.ValueOf(x))...)
	}
	for _, x := range results {
		own = append(own, spansOf(reflect.ValueOf(x))...)
	}
	for i, x := range own {
		for _, y := range slices.Concat(own[:i], given) {
			if x.from < y.to && y.from < x.to {
				t.Fatalf("%s: a slice of the result shares memory", name)
			}
		}
	}
}

// withSpares is a copy of v in which each slice has two elements in its spare capacity: copies of its first one, or zeros.
func withSpares(v reflect.Value) reflect.Value {
	out := reflect.New(v.Type()).Elem()
	out.Set(v)
	switch v.Kind() {
	case reflect.Slice:
		n := v.Len()
		more := reflect.MakeSlice(v.Type(), n+2, n+2)
		for i := range n + 2 {
			if n > 0 {
				more.Index(i).Set(withSpares(v.Index(i % n)))
			}
		}
		out.Set(more.Slice(0, n))
	case reflect.Struct:
		for i := range v.NumField() {
			out.Field(i).Set(withSpares(v.Field(i)))
		}
	}
	return out
}

func roomyCopy[T any](x T) T {
	return withSpares(reflect.ValueOf(x)).Interface().(T)
}

// wholeText is all that is in v, spare capacity included.
func wholeText(v reflect.Value) string {
	text := ""
	switch v.Kind() {
	case reflect.Slice:
		text = fmt.Sprintf("%d/%d", v.Len(), v.Cap())
		for i := range v.Cap() {
			text += "," + wholeText(v.Slice(0, v.Cap()).Index(i))
		}
		return "[" + text + "]"
	case reflect.Struct:
		for i := range v.NumField() {
			text += wholeText(v.Field(i)) + " "
		}
		return "{" + text + "}"
	}
	return fmt.Sprintf("%#v", v)
}

// checkCall calls f, which returns its results, and looks at the memory of these and of the arguments of the function that it calls.
func checkCall(t *testing.T, name string, args []any, f func() []any) {
	t.Helper()
	var before, after []string
	for _, x := range args {
		before = append(before, wholeText(reflect.ValueOf(x)))
	}
	results := f()
	for _, x := range args {
		after = append(after, wholeText(reflect.ValueOf(x)))
	}
	if !slices.Equal(before, after) {
		t.Errorf("%s changes an argument", name)
	}
	checkApart(t, name, args, results)
}

func list[T any](x T, ok bool) []any {
	return []any{x, ok}
}

func TestHostHasMemoryOfItsOwn(t *testing.T) {
	for _, good := range goodHosts() {
		h, m, x := roomyCopy(good), roomyCopy(letter()), roomyCopy(item(3, rcpt(ann, 0, 0)))
		x.Body = []string{"Id: 1", "x"}
		checkCall(t, "BounceOf", []any{x}, func() []any { return list(impl.BounceOf(x, bob)) })
		checkCall(t, "MarkOf", []any{x}, func() []any { return []any{impl.MarkOf(x.Body), impl.HostOk(h)} })
		checkCall(t, "HostNew", []any{h.Conf}, func() []any { return []any{impl.HostNew(h.Conf)} })
		for _, now := range []int{-1, 0, 6, impl.TimeMax} {
			checkCall(t, "HostTake", []any{h, m}, func() []any { return list(impl.HostTake(h, m, now)) })
			checkCall(t, "HostKeep", []any{h}, func() []any { return []any{impl.HostKeep(h, now)} })
			for _, x := range h.Spool.Items {
				checkCall(t, "HostPart", []any{h}, func() []any { return list(impl.HostPart(h, x.Id, "", now)) })
				checkCall(t, "HostPart", []any{h}, func() []any { return list(impl.HostPart(h, x.Id, "three", now)) })
				for out := impl.OutPass; out <= impl.OutPerm; out++ {
					checkCall(t, "HostOut", []any{h}, func() []any { return list(impl.HostOut(h, x.Id, x.To[0].Addr, out, now)) })
				}
			}
		}
	}
}

func TestWorldHasMemoryOfItsOwn(t *testing.T) {
	busy := busyWorlds()
	for _, good := range []impl.World{busy[0], busy[5], busy[8], fullWorld(), impl.WorldNew(ring())} {
		w := roomyCopy(good)
		eachEvent(func(e impl.Event) {
			e = roomyCopy(e)
			checkCall(t, "WorldDo", []any{w, e}, func() []any { return list(impl.WorldDo(w, e)) })
		})
		for rounds := range 3 {
			checkCall(t, "WorldCalm", []any{w}, func() []any { return []any{impl.WorldCalm(w, rounds)} })
		}
		for _, a := range []impl.Addr{user("a", "one.org"), user("q", "x.com"), zoe} {
			checkCall(t, "the queries", []any{w}, func() []any {
				return []any{impl.LookMany(w), impl.LookBox(w, a), impl.LookTwice(w), impl.WorldKept(w), impl.WorldOk(w)}
			})
		}
	}
	eachPlay(14, false, func(confs []impl.Conf, events []impl.Event) {
		confs, events = roomyCopy(confs), roomyCopy(events)
		checkCall(t, "WorldNew", []any{confs}, func() []any { return []any{impl.WorldNew(confs)} })
		checkCall(t, "WorldPlay", []any{confs, events}, func() []any { return []any{impl.WorldPlay(confs, events)} })
		checkCall(t, "LookWay", []any{confs}, func() []any { return []any{impl.LookWay(confs, confs[0].Name, "x.com")} })
	})
}

func TestEncodedLinesHaveMemoryOfTheirOwn(t *testing.T) {
	for _, n := range []int{0, 1, 30, 31, 100, impl.CodeMax, impl.CodeMax + 1} {
		s := madeUp(n)
		first := impl.LinesPut(s)
		lines := roomyCopy(first)
		overwrite(first, "changed")
		checkCall(t, "LinesPut", []any{lines}, func() []any { return []any{impl.LinesPut(s)} })
		checkCall(t, "LinesGet", []any{lines}, func() []any { return list(impl.LinesGet(lines)) })
		if got := impl.LinesPut(s); !slices.Equal(got, lines) {
			t.Errorf("one result changed with another: %q", got)
		}
	}
}

func TestAliasesHaveMemoryOfTheirOwn(t *testing.T) {
	check := func(x []impl.Alias) {
		x, m := roomyCopy(x), roomyCopy(impl.Mail{From: ann, To: addrs("a@x b@x a@z"), Body: []string{"x", "y"}})
		for _, a := range []impl.Addr{spelt("a@x"), zoe, {}} {
			checkCall(t, "AliasFor", []any{x}, func() []any { return []any{impl.AliasOk(x), impl.AliasFor(x, a)} })
		}
		checkCall(t, "AliasRound", []any{x}, func() []any { return []any{impl.AliasRound(x)} })
		checkCall(t, "AliasFlat", []any{x}, func() []any { return []any{impl.AliasFlat(x)} })
		checkCall(t, "AliasMail", []any{x, m}, func() []any { return list(impl.AliasMail(x, m)) })
		flat, round := impl.AliasFlat(x), impl.AliasRound(x)
		for _, y := range impl.AliasFlat(x) {
			overwrite(y.To, eve)
		}
		overwrite(impl.AliasRound(x), eve)
		if !sameAliases(impl.AliasFlat(x), flat) || !slices.Equal(impl.AliasRound(x), round) {
			t.Errorf("one result of %s changed with another", aliasText(x))
		}
	}
	eachAliases(300, check)
	for _, x := range append(goodAliases(), aliases("a@x:b@x", "a@x:c@x"), aliases("a@x:")) {
		check(x)
	}
}

func TestSievesHaveMemoryOfTheirOwn(t *testing.T) {
	eachSieve(func(rules []impl.Rule) {
		rules, m := roomyCopy(rules), roomyCopy(mailFrom("a@one.org", "x", "y"))
		checkCall(t, "SieveFor", []any{rules, m}, func() []any { return []any{impl.SieveOk(rules), impl.SieveFor(rules, m)} })
		checkCall(t, "SieveDo", []any{rules, m}, func() []any {
			got, do := impl.SieveDo(rules, m)
			return []any{got, do}
		})
		checkCall(t, "SieveTidy", []any{rules}, func() []any { return []any{impl.SieveTidy(rules)} })
	})
}

func TestHopPutGivesMemoryOfItsOwn(t *testing.T) {
	list := roomy([]string{"a", "b"}, "spare", "spare")
	whole := slices.Clone(list[:cap(list)])
	got, _ := impl.HopPut("one.org", list)
	again, _ := impl.HopPut("one.org", list)
	overwrite(got, "changed")
	if !slices.Equal(list[:cap(list)], whole) {
		t.Errorf("the argument changed with the result: %q", list[:cap(list)])
	}
	if !slices.Equal(again, []string{"Hop: one.org", "a", "b"}) {
		t.Errorf("one result changed with another: %q", again)
	}
}

func TestReadersGiveMemoryOfTheirOwn(t *testing.T) {
	text := "from <>\r\nto <ann@one.org>\r\nto <bob@two.org>\r\n\r\nx\r\n..y\r\n.\r\n"
	first, _ := impl.MailGet(text)
	second, _ := impl.MailGet(text)
	overwrite(first.To, eve)
	overwrite(first.Body, "changed")
	if want := (impl.Mail{To: []impl.Addr{ann, bob}, Body: []string{"x", ".y"}}); !sameMail(second, want) {
		t.Errorf("one result changed with another: %q", second)
	}
	list, _ := impl.DotGet("x\r\n..y\r\n.\r\n")
	twin, _ := impl.DotGet("x\r\n..y\r\n.\r\n")
	overwrite(list, "changed")
	if !slices.Equal(twin, []string{"x", ".y"}) {
		t.Errorf("one result changed with another: %q", twin)
	}
	lines, _ := impl.LinesOf("x\r\ny\r\n")
	same, _ := impl.LinesOf("x\r\ny\r\n")
	overwrite(lines, "changed")
	if !slices.Equal(same, []string{"x", "y"}) {
		t.Errorf("one result changed with another: %q", same)
	}
}

// overwrite changes list and its spare capacity.
func overwrite[T any](list []T, x T) {
	list = list[:cap(list)]
	for i := range list {
		list[i] = x
	}
}
