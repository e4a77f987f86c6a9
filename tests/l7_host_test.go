package tests

import (
	"fmt"
	"regexp"
	"slices"
	"testing"

	"loop.example/satchel/impl"
)

var (
	markShape = regexp.MustCompile(`\AId: .+\z`)
	hub       = impl.Addr{User: "u", Domain: "x.org"}
	times     = []int{0, 1, 5, 6, 10, 20, 500, impl.TimeMax - 8, impl.TimeMax - 2, impl.TimeMax - 1, impl.TimeMax}
	badTimes  = []int{-1, impl.TimeMax + 1, 1 << 40, -1 << 63, 1<<63 - 1}
)

func got(from impl.Addr, body ...string) impl.Got {
	return impl.Got{From: from, Body: body}
}

func box(a impl.Addr, mails ...impl.Got) impl.Box {
	return impl.Box{Addr: a, Mails: mails}
}

// oneHost has mail for its own domains, for two next hosts and for a domain without a route; it has mailboxes and losses.
func oneHost() impl.Host {
	return impl.Host{
		Conf: oneConf(),
		Spool: spoolOf(9,
			impl.Item{Id: 2, From: bob, To: []impl.Rcpt{rcpt(bob, 0, 5), rcpt(ann, 1, 6), rcpt(zoe, 2, 5), rcpt(cat, 3, 20)}, Body: []string{"Hop: one.org", "Id: 2", "x"}},
			impl.Item{Id: 4, To: []impl.Rcpt{rcpt(eve, 0, 10), rcpt(hub, 0, 0)}, Body: []string{"not delivered:", "<ann@one.org>", "Id: 1"}},
			impl.Item{Id: 7, From: zoe, To: []impl.Rcpt{rcpt(dan, 3, impl.TimeMax)}},
			impl.Item{Id: 8, From: ann, To: []impl.Rcpt{rcpt(ann, 0, 0)}, Body: []string{"Id: ", "Id: a"}}),
		Boxes: []impl.Box{box(eve, got(ann, "Id: 9"), got(impl.Addr{})), box(cat)},
		Lost:  []impl.Loss{{Mark: "Id: 3", Addr: bob}, {}},
	}
}

// hostWith has the routes of oneConf and a spool.
func hostWith(s impl.Spool) impl.Host {
	return impl.Host{Conf: oneConf(), Spool: s}
}

func goodHosts() []impl.Host {
	list := []impl.Host{
		oneHost(), hostWith(manyItems(impl.SpoolMax, 1)), hostWith(manyItems(impl.SpoolMax-1, 1)), hostWith(spoolOf(impl.IdMax)), hostWith(spoolOf(impl.IdMax - 1)),
		{Conf: oneConf(), Boxes: []impl.Box{box(eve), box(ann), box(cat)}}, {Conf: oneConf(), Boxes: []impl.Box{box(ann), box(cat)}},
		{Conf: oneConf(), Boxes: []impl.Box{box(ann, slices.Repeat([]impl.Got{got(ann, "x")}, 100)...)}},
		{Conf: oneConf(), Boxes: []impl.Box{box(ann, got(longAddrs[0], bodyOf(impl.BodyMax)...), got(ann), got(impl.Addr{}, "."))}},
		{Conf: oneConf(), Lost: []impl.Loss{{}, {}, {Mark: "\r\n", Addr: badAddrs[0]}}},
	}
	for _, c := range goodConfs() {
		list = append(list, impl.Host{Conf: c}, impl.Host{Conf: c, Spool: oneSpool()})
	}
	return list
}

func badBoxes() [][]impl.Box {
	list := [][]impl.Box{
		{box(ann), box(ann)}, {box(cat), box(ann)}, {box(ann), box(eve)}, {box(eve), box(cat), box(ann)}, {box(eve), box(ann), box(ann)},
		{box(bob)}, {box(zoe)}, {box(ann), box(zoe)}, {box(hub)}, {box(impl.Addr{})}, {box(impl.Addr{Domain: "one.org"})}, {box(impl.Addr{User: "ann"})},
		{box(impl.Addr{User: "Ann", Domain: "one.org"})}, {box(impl.Addr{User: "ann", Domain: "x.one.org"})}, {box(impl.Addr{User: "ann", Domain: "org"})},
		{box(eve), box(impl.Addr{User: "abcdefghi", Domain: "one.org"})},
	}
	for _, body := range badBodies() {
		list = append(list, []impl.Box{box(ann, got(ann, body...))}, []impl.Box{box(eve), box(ann, got(ann), got(impl.Addr{}, body...))})
	}
	for _, a := range badAddrs {
		list = append(list, []impl.Box{box(ann, got(a, "x"))}, []impl.Box{box(eve, got(ann), got(a))}, []impl.Box{box(a)})
	}
	return list
}

func badHosts() []impl.Host {
	list := []impl.Host{{}, {Spool: oneSpool()}, {Conf: impl.Conf{Name: "a", Own: []string{"b"}}, Boxes: []impl.Box{box(impl.Addr{User: "u", Domain: "a"})}}}
	for _, c := range badConfs() {
		list = append(list, impl.Host{Conf: c})
	}
	for _, s := range badSpools() {
		list = append(list, hostWith(s))
	}
	for _, boxes := range badBoxes() {
		list = append(list, impl.Host{Conf: oneConf(), Boxes: boxes})
	}
	return list
}

func sameConf(a impl.Conf, b impl.Conf) bool {
	return a.Name == b.Name && slices.Equal(a.Own, b.Own) && slices.Equal(a.Ways, b.Ways)
}

func sameGot(a impl.Got, b impl.Got) bool {
	return a.From == b.From && slices.Equal(a.Body, b.Body)
}

func sameBox(a impl.Box, b impl.Box) bool {
	return a.Addr == b.Addr && slices.EqualFunc(a.Mails, b.Mails, sameGot)
}

func sameHost(a impl.Host, b impl.Host) bool {
	return sameConf(a.Conf, b.Conf) && sameSpool(a.Spool, b.Spool) && slices.EqualFunc(a.Boxes, b.Boxes, sameBox) && slices.Equal(a.Lost, b.Lost)
}

func copyOfHost(h impl.Host) impl.Host {
	h.Conf.Own, h.Conf.Ways = slices.Clone(h.Conf.Own), slices.Clone(h.Conf.Ways)
	h.Spool, h.Boxes, h.Lost = copyOfSpool(h.Spool), slices.Clone(h.Boxes), slices.Clone(h.Lost)
	for i, b := range h.Boxes {
		h.Boxes[i].Mails = slices.Clone(b.Mails)
	}
	return h
}

func hostText(h impl.Host) string {
	return fmt.Sprintf("%.900s", fmt.Sprintf("%+v", h))
}

func mailsIn(h impl.Host) int {
	many := 0
	for _, b := range h.Boxes {
		many += len(b.Mails)
	}
	return many
}

// without is h without a recipient of an item.
func without(h impl.Host, id int, a impl.Addr) impl.Host {
	h = copyOfHost(h)
	h.Spool, _ = impl.SpoolDone(h.Spool, id, a)
	return h
}

// eachOf calls f for every recipient of every item of every good host.
func eachOf(f func(h impl.Host, x impl.Item, r impl.Rcpt)) {
	for _, h := range goodHosts() {
		for _, x := range h.Spool.Items {
			for _, r := range x.To {
				f(h, x, r)
			}
		}
	}
	eachWaiting(func(s impl.Spool, at int, to int) { f(hostWith(s), s.Items[at], s.Items[at].To[to]) })
}

func TestMarkOf(t *testing.T) {
	longest := "Id: " + lineOf(impl.LineMax-4)
	cases := []struct {
		body []string
		want string
	}{
		{nil, ""}, {[]string{""}, ""}, {[]string{"Id: 1"}, "Id: 1"}, {[]string{"x", "Id: 1"}, "Id: 1"}, {[]string{"Id: 2", "Id: 1"}, "Id: 2"},
		{[]string{"Hop: a", "Hop: b", "Id: 1", "Id: 2"}, "Id: 1"}, {[]string{"not delivered:", "<a@b>", "Id: 7"}, "Id: 7"}, {[]string{"Id: "}, ""},
		{[]string{"Id: ", "Id: 1"}, "Id: 1"}, {[]string{"Id:", "Id", "Id:1", "id: 1", "ID: 1", " Id: 1", ".Id: 1", "xId: 1", "Id:\t"}, ""}, {[]string{"Id:  "}, "Id:  "},
		{[]string{"Id: x y", "z"}, "Id: x y"}, {[]string{"Id: Id: 1"}, "Id: Id: 1"}, {[]string{longest}, longest}, {append(bodyOf(impl.BodyMax-1), "Id: 1"), "Id: 1"},
		{append([]string{"Id: 1"}, bodyOf(impl.BodyMax-1)...), "Id: 1"}, {append([]string{"Id: 1"}, bodyOf(impl.BodyMax)...), ""}, {[]string{longest + "x"}, ""},
		{[]string{"Id: 1", lineOf(impl.LineMax + 1)}, ""}, {[]string{"Id: 1", "\n"}, ""}, {[]string{"Id: \x00"}, ""}, {[]string{"\x00", "Id: 1"}, ""},
	}
	for _, c := range cases {
		if mark := impl.MarkOf(c.body); mark != c.want {
			t.Errorf("MarkOf(%.200q) = %q, not %q", c.body, mark, c.want)
		}
	}
}

// Promise 34.
func TestMessageIsKnownByItsFirstMark(t *testing.T) {
	for _, body := range goodBodies() {
		for at := range len(body) + 1 {
			for _, line := range []string{"Id: 1", "Id: ", "x"} {
				list := slices.Insert(slices.Clone(body), at, line)
				if len(list) >= impl.BodyMax {
					continue
				}
				want := ""
				if first := slices.IndexFunc(list, markShape.MatchString); first >= 0 {
					want = list[first]
				}
				mark, behind := impl.MarkOf(list), impl.MarkOf(append([]string{"x"}, list...))
				if mark != want || behind != want {
					t.Errorf("MarkOf(%q) = %q, and behind a line %q", list, mark, behind)
				}
			}
		}
	}
	for _, body := range badBodies() {
		if mark := impl.MarkOf(append([]string{"Id: 1"}, body...)); mark != "" {
			t.Errorf("MarkOf of %.200q behind a mark = %q", body, mark)
		}
	}
}

// Promise 35.
func TestBouncesGoToTheSender(t *testing.T) {
	bodies := append(goodBodies(), []string{"Id: 1"}, []string{"Id: ", "x", "Id: 2", "Id: 3"}, []string{"Id: "}, []string{"Id: " + lineOf(impl.LineMax-4)})
	for _, body := range bodies {
		for _, from := range []impl.Addr{ann, zoe, longAddrs[0]} {
			for _, a := range []impl.Addr{ann, bob, longAddrs[1]} {
				x := impl.Item{Id: 3, From: from, To: []impl.Rcpt{rcpt(bob, 0, 0), rcpt(cat, 3, impl.TimeMax)}, Body: body}
				want := impl.Mail{To: []impl.Addr{from}, Body: []string{"not delivered:", fmt.Sprintf("<%s@%s>", a.User, a.Domain)}}
				if mark := impl.MarkOf(body); mark != "" {
					want.Body = append(want.Body, mark)
				}
				m, ok := impl.BounceOf(x, a)
				if !ok || !sameMail(m, want) || !impl.MailOk(m) || impl.MarkOf(m.Body) != impl.MarkOf(body) {
					t.Errorf("BounceOf(%+v, %v) = %q, %v", x, a, m, ok)
				}
			}
		}
	}
	for _, id := range []int{1, impl.IdMax, impl.IdMax + 1, 1<<63 - 1} {
		if _, ok := impl.BounceOf(item(id, rcpt(ann, 0, 0)), ann); !ok {
			t.Errorf("no bounce of item %d", id)
		}
	}
}

func TestNoBounce(t *testing.T) {
	check := func(x impl.Item, a impl.Addr) {
		t.Helper()
		if m, ok := impl.BounceOf(x, a); ok || !isZeroMail(m) {
			t.Errorf("BounceOf(%.200s, %v) = %q, %v", fmt.Sprintf("%+v", x), a, m, ok)
		}
	}
	bounce := item(1, rcpt(ann, 0, 0))
	bounce.From = impl.Addr{}
	check(bounce, ann)
	for _, a := range append(slices.Clone(badAddrs), impl.Addr{}) {
		check(item(1, rcpt(ann, 0, 0)), a)
	}
	for _, x := range badItems() {
		// An Id that is only too large for its spool is one.
		if x.Id != 4 {
			check(x, ann)
		}
	}
}

func TestHostOk(t *testing.T) {
	for _, h := range goodHosts() {
		if !impl.HostOk(h) {
			t.Errorf("%s is valid", hostText(h))
		}
	}
	for _, h := range badHosts() {
		if impl.HostOk(h) {
			t.Errorf("%s is not valid", hostText(h))
		}
	}
}

func TestMailboxesAreInOrder(t *testing.T) {
	// By domain, and then by user: the users alone are in another order.
	ordered := []impl.Addr{{User: "z", Domain: "a"}, {User: "0", Domain: "a.b"}, {User: "a", Domain: "a.b"}, {User: "aa", Domain: "a.b"}, {User: "b", Domain: "a.b"}, {User: "a", Domain: "aa"}}
	c := impl.Conf{Name: "n", Own: []string{"aa", "a.b", "a"}}
	for i, a := range ordered {
		for j, b := range ordered {
			if ok := impl.HostOk(impl.Host{Conf: c, Boxes: []impl.Box{box(a), box(b)}}); ok != (i < j) {
				t.Errorf("mailboxes of %v and %v: %v", a, b, ok)
			}
		}
	}
}

// Promise 36.
func TestNewHostHasNoMail(t *testing.T) {
	for _, c := range goodConfs() {
		h := impl.HostNew(c)
		if !sameHost(h, impl.Host{Conf: c}) || !impl.HostOk(h) || impl.SpoolMany(h.Spool) != 0 || len(h.Boxes) != 0 {
			t.Errorf("HostNew(%q) = %s", c, hostText(h))
		}
	}
	for _, c := range badConfs() {
		if h := impl.HostNew(c); !sameHost(h, impl.Host{}) {
			t.Errorf("HostNew(%.200q) = %s", c, hostText(h))
		}
	}
}

// Promise 37.
func TestAcceptedMessageIsSpooled(t *testing.T) {
	taken := 0
	check := func(h impl.Host, m impl.Mail, now int) {
		want, room := copyOfHost(h), len(h.Spool.Items) < impl.SpoolMax && h.Spool.Last < impl.IdMax
		may := room && len(m.Body) < impl.BodyMax
		for _, a := range m.To {
			may = may && impl.ConfTakes(h.Conf, a)
		}
		if may {
			x := impl.Item{Id: h.Spool.Last + 1, From: m.From, Body: append([]string{"Hop: " + h.Conf.Name}, m.Body...)}
			for _, a := range m.To {
				x.To = append(x.To, rcpt(a, 0, now))
			}
			want.Spool = spoolOf(x.Id, append(want.Spool.Items, x)...)
			taken++
		}
		after, ok := impl.HostTake(h, m, now)
		if ok != may || !sameHost(after, want) || !impl.HostOk(after) {
			t.Errorf("HostTake(%s, %q, %d) = %s, %v", hostText(h), m, now, hostText(after), ok)
		}
		if grown := impl.SpoolMany(after.Spool) - impl.SpoolMany(h.Spool); ok && grown != len(m.To) {
			t.Errorf("HostTake(%s, %q, %d) grows by %d", hostText(h), m, now, grown)
		}
	}
	for _, h := range goodHosts() {
		for _, now := range times {
			check(h, letter(), now)
			check(h, impl.Mail{To: []impl.Addr{ann, bob, eve, hub}}, now)
			check(h, impl.Mail{To: []impl.Addr{ann, zoe}}, now)
		}
	}
	eachGoodMail(func(m impl.Mail) { check(oneHost(), m, 9) })
	if taken == 0 {
		t.Error("no message was taken")
	}
}

func TestMessageThatIsNotTaken(t *testing.T) {
	check := func(h impl.Host, m impl.Mail, now int) {
		t.Helper()
		if after, ok := impl.HostTake(h, m, now); ok || !sameHost(after, h) {
			t.Errorf("HostTake(%s, %.200q, %d) = %s, %v", hostText(h), m, now, hostText(after), ok)
		}
	}
	for _, now := range badTimes {
		check(oneHost(), letter(), now)
	}
	eachBadMail(func(m impl.Mail) { check(oneHost(), m, 5) })
	for _, to := range [][]impl.Addr{{zoe}, {ann, zoe}, {zoe, ann}, {ann, bob, zoe, cat}} {
		check(oneHost(), impl.Mail{From: ann, To: to}, 5)
	}
	check(oneHost(), impl.Mail{To: []impl.Addr{ann}, Body: bodyOf(impl.BodyMax)}, 5)
	check(hostWith(manyItems(impl.SpoolMax, 1)), letter(), 5)
	check(hostWith(spoolOf(impl.IdMax)), letter(), 5)
	// A trace line more than a client may send is no reason not to take it.
	hops := slices.Repeat([]string{"Hop: a"}, impl.BodyMax-1)
	if h, ok := impl.HostTake(hostWith(spoolOf(0)), impl.Mail{To: []impl.Addr{ann}, Body: hops}, 5); !ok || len(h.Spool.Items[0].Body) != impl.BodyMax {
		t.Errorf("BodyMax - 1 lines: %s, %v", hostText(h), ok)
	}
}

// afterOut is what is required of HostOut, for a recipient whom h has, in terms of the functions of spools.
func afterOut(h impl.Host, x impl.Item, a impl.Addr, out int, now int) impl.Host {
	want := without(h, x.Id, a)
	if out == impl.OutDone {
		return want
	}
	later, ok := impl.SpoolLater(h.Spool, x.Id, a, now)
	if out == impl.OutTemp && ok {
		want.Spool = later
		return want
	}
	bounce, may := impl.BounceOf(x, a)
	next, room := impl.SpoolAdd(want.Spool, bounce, now)
	if may && room {
		want.Spool = next
		return want
	}
	want.Lost = append(want.Lost, impl.Loss{Mark: impl.MarkOf(x.Body), Addr: a})
	return want
}

// Promise 38.
func TestUndeliverableMailIsNotForgotten(t *testing.T) {
	bounced, lost := 0, 0
	eachOf(func(h impl.Host, x impl.Item, r impl.Rcpt) {
		for _, out := range []int{impl.OutDone, impl.OutTemp, impl.OutPerm} {
			for _, now := range times {
				want := afterOut(h, x, r.Addr, out, now)
				after, ok := impl.HostOut(h, x.Id, r.Addr, out, now)
				if !ok || !sameHost(after, want) || !impl.HostOk(after) {
					t.Errorf("HostOut(%s, %d, %v, %d, %d) = %s, %v", hostText(h), x.Id, r.Addr, out, now, hostText(after), ok)
				}
				many := impl.SpoolMany(after.Spool) - impl.SpoolMany(h.Spool)
				if out == impl.OutDone && (many != -1 || len(after.Lost) != len(h.Lost)) || out != impl.OutDone && many+len(after.Lost) != len(h.Lost) {
					t.Errorf("HostOut(%s, %d, %v, %d, %d) changes SpoolMany by %d", hostText(h), x.Id, r.Addr, out, now, many)
				}
				lost += len(after.Lost) - len(h.Lost)
				bounced += after.Spool.Last - h.Spool.Last
			}
		}
	})
	if bounced == 0 || lost == 0 {
		t.Errorf("%d bounces, %d losses", bounced, lost)
	}
}

// checkOut is about a host of which only the spool and the losses change.
func checkOut(t *testing.T, h impl.Host, id int, a impl.Addr, out int, now int, s impl.Spool, lost ...impl.Loss) impl.Host {
	t.Helper()
	want := copyOfHost(h)
	want.Spool, want.Lost = s, append(want.Lost, lost...)
	after, ok := impl.HostOut(h, id, a, out, now)
	if !ok || !sameHost(after, want) {
		t.Errorf("HostOut(%s, %d, %v, %d, %d) = %s, %v", hostText(h), id, a, out, now, hostText(after), ok)
	}
	return after
}

func bounceItem(id int, to impl.Addr, now int, body ...string) impl.Item {
	return impl.Item{Id: id, To: []impl.Rcpt{rcpt(to, 0, now)}, Body: append([]string{"not delivered:"}, body...)}
}

func TestGivingUp(t *testing.T) {
	x := impl.Item{Id: 2, From: ann, To: []impl.Rcpt{rcpt(bob, 0, 3), rcpt(zoe, 3, 3)}, Body: []string{"Hop: one.org", "Id: 5", "hi"}}
	toBob, toZoe := copyOfSpool(spoolOf(2, x)).Items[0], copyOfSpool(spoolOf(2, x)).Items[0]
	toBob.To, toZoe.To = toBob.To[:1], toZoe.To[1:]
	h := hostWith(spoolOf(2, x))
	checkOut(t, h, 2, bob, impl.OutDone, 9, spoolOf(2, toZoe))
	checkOut(t, h, 2, zoe, impl.OutDone, 9, spoolOf(2, toBob))
	later := copyOfSpool(spoolOf(2, x))
	later.Items[0].To[0] = rcpt(bob, 1, 11)
	checkOut(t, h, 2, bob, impl.OutTemp, 9, later)
	checkOut(t, h, 2, bob, impl.OutPerm, 9, spoolOf(3, toZoe, bounceItem(3, ann, 9, "<bob@two.org>", "Id: 5")))
	// The attempt is the last one, or the next one would be too late.
	checkOut(t, h, 2, zoe, impl.OutTemp, 9, spoolOf(3, toBob, bounceItem(3, ann, 9, "<zoe@no.net>", "Id: 5")))
	checkOut(t, h, 2, bob, impl.OutTemp, impl.TimeMax-1, spoolOf(3, toZoe, bounceItem(3, ann, impl.TimeMax-1, "<bob@two.org>", "Id: 5")))
	checkOut(t, h, 2, bob, impl.OutPerm, impl.TimeMax, spoolOf(3, toZoe, bounceItem(3, ann, impl.TimeMax, "<bob@two.org>", "Id: 5")))
	x.Body = []string{"Id: ", "hi"}
	checkOut(t, hostWith(spoolOf(2, x)), 2, bob, impl.OutPerm, 9, spoolOf(3, impl.Item{Id: 2, From: ann, To: toZoe.To, Body: x.Body}, bounceItem(3, ann, 9, "<bob@two.org>")))
	x.From = impl.Addr{}
	checkOut(t, hostWith(spoolOf(2, x)), 2, bob, impl.OutPerm, 9, spoolOf(2, impl.Item{Id: 2, To: toZoe.To, Body: x.Body}), impl.Loss{Addr: bob})
}

func TestBounceOfABounce(t *testing.T) {
	h := hostWith(spoolOf(1, impl.Item{Id: 1, From: zoe, To: []impl.Rcpt{rcpt(bob, 0, 0)}, Body: []string{"x", "Id: 5"}}))
	h = checkOut(t, h, 1, bob, impl.OutPerm, 7, spoolOf(2, bounceItem(2, zoe, 7, "<bob@two.org>", "Id: 5")))
	for tries, now := range []int{7, 9, 13} {
		after := bounceItem(2, zoe, 7, "<bob@two.org>", "Id: 5")
		after.To[0] = rcpt(zoe, tries+1, now+impl.SpoolPause(tries+1))
		h = checkOut(t, h, 2, zoe, impl.OutTemp, now, spoolOf(2, after))
	}
	// Of this one nobody can be told.
	checkOut(t, h, 2, zoe, impl.OutTemp, 21, spoolOf(2), impl.Loss{Mark: "Id: 5", Addr: zoe})
	checkOut(t, h, 2, zoe, impl.OutPerm, 0, spoolOf(2), impl.Loss{Mark: "Id: 5", Addr: zoe})
}

func TestBounceWithoutRoom(t *testing.T) {
	full := manyItems(impl.SpoolMax, 1)
	full.Items[3].To = []impl.Rcpt{rcpt(ann, 0, 0), rcpt(bob, 0, 0)}
	full.Items[3].Body = []string{"Id: 4"}
	// The last recipient of an item makes room for the bounce.
	room := copyOfSpool(full)
	room.Items = append(slices.Delete(room.Items, 5, 6), bounceItem(impl.SpoolMax+1, eve, 9, "<ann@one.org>"))
	room.Last++
	checkOut(t, hostWith(full), 6, ann, impl.OutPerm, 9, room)
	left := copyOfSpool(full)
	left.Items[3].To = left.Items[3].To[:1]
	h := checkOut(t, hostWith(full), 4, bob, impl.OutPerm, 9, left, impl.Loss{Mark: "Id: 4", Addr: bob})
	gone := copyOfSpool(left)
	gone.Items = append(slices.Delete(gone.Items, 3, 4), bounceItem(impl.SpoolMax+1, eve, 9, "<ann@one.org>", "Id: 4"))
	gone.Last++
	checkOut(t, h, 4, ann, impl.OutPerm, 9, gone)
	last := spoolOf(impl.IdMax, impl.Item{Id: 3, From: eve, To: []impl.Rcpt{rcpt(ann, 3, 0)}, Body: []string{"Id: 4"}})
	checkOut(t, hostWith(last), 3, ann, impl.OutTemp, 9, spoolOf(impl.IdMax), impl.Loss{Mark: "Id: 4", Addr: ann})
	last.Last--
	checkOut(t, hostWith(last), 3, ann, impl.OutTemp, 9, spoolOf(impl.IdMax, bounceItem(impl.IdMax, eve, 9, "<ann@one.org>", "Id: 4")))
}

func TestOutcomesThatCannotBeRecorded(t *testing.T) {
	check := func(id int, a impl.Addr, out int, now int) {
		t.Helper()
		if after, ok := impl.HostOut(oneHost(), id, a, out, now); ok || !sameHost(after, oneHost()) {
			t.Errorf("HostOut(%d, %v, %d, %d) = %s, %v", id, a, out, now, hostText(after), ok)
		}
	}
	for out := impl.OutDone; out <= impl.OutPerm; out++ {
		for _, id := range []int{0, -1, 1, 3, 9, 10, 1 << 40, -1 << 63} {
			check(id, bob, out, 5)
		}
		for _, a := range append(slices.Clone(badAddrs), impl.Addr{}, eve, dan, hub) {
			check(2, a, out, 5)
		}
		for _, now := range badTimes {
			check(2, bob, out, now)
			check(7, dan, out, now)
		}
	}
	for _, out := range []int{impl.OutNone, impl.OutPass, -1, 5, 1 << 40, -1 << 63} {
		check(2, bob, out, 5)
	}
}

func TestHostPart(t *testing.T) {
	x := oneHost().Spool.Items
	cases := []struct {
		id   int
		to   string
		now  int
		want []impl.Addr
	}{
		{2, "three", 5, []impl.Addr{bob}}, {2, "three", 4, nil}, {2, "", 5, nil}, {2, "", 6, []impl.Addr{ann}}, {2, "", 19, []impl.Addr{ann}}, {2, "", 20, []impl.Addr{ann, cat}},
		{2, "four", 20, nil}, {2, "hub", 20, nil}, {2, "one.org", 20, nil}, {2, "no.net", 20, nil}, {4, "hub", 0, []impl.Addr{hub}}, {4, "hub", -1, nil}, {4, "five", 10, nil},
		{4, "", 9, nil}, {4, "", 10, []impl.Addr{eve}}, {7, "three", impl.TimeMax, []impl.Addr{dan}}, {7, "three", impl.TimeMax - 1, nil}, {7, "three", 1<<63 - 1, []impl.Addr{dan}},
		{8, "", 0, []impl.Addr{ann}}, {8, "", -1, nil}, {8, "", -1 << 63, nil}, {8, "hub", 5, nil}, {9, "", 20, nil}, {3, "", 20, nil}, {0, "", 20, nil}, {-1, "three", 20, nil}, {1 << 40, "", 20, nil},
	}
	for _, c := range cases {
		want := impl.Mail{}
		if len(c.want) > 0 {
			at := slices.IndexFunc(x, func(x impl.Item) bool { return x.Id == c.id })
			want = impl.Mail{From: x[at].From, To: c.want, Body: x[at].Body}
		}
		m, ok := impl.HostPart(oneHost(), c.id, c.to, c.now)
		if ok != (len(c.want) > 0) || !sameMail(m, want) {
			t.Errorf("HostPart(%d, %q, %d) = %q, %v", c.id, c.to, c.now, m, ok)
		}
	}
	for _, to := range badDomains {
		if m, ok := impl.HostPart(oneHost(), 2, to, 20); to != "" && (ok || !isZeroMail(m)) {
			t.Errorf("HostPart to %.60q = %q, %v", to, m, ok)
		}
	}
}

// Promise 39.
func TestPartHasTheDueRecipientsOfARoute(t *testing.T) {
	parts := 0
	eachOf(func(h impl.Host, x impl.Item, r impl.Rcpt) {
		for _, to := range []string{"", "three", "four", "hub", "five", "x", "c", "one.org"} {
			for _, now := range []int{-1, 0, 5, 9, 20, 40, impl.TimeMax, impl.TimeMax + 1} {
				want := impl.Mail{From: x.From, Body: x.Body}
				for _, r := range x.To {
					local := slices.Contains(h.Conf.Own, r.Addr.Domain)
					if r.Next <= now && impl.WayOf(h.Conf, r.Addr.Domain) == to && (to != "" || local) {
						want.To = append(want.To, r.Addr)
					}
				}
				if len(want.To) == 0 {
					want = impl.Mail{}
				}
				m, ok := impl.HostPart(h, x.Id, to, now)
				if ok != impl.MailOk(want) || !sameMail(m, want) {
					t.Errorf("HostPart(%s, %d, %q, %d) = %q, %v", hostText(h), x.Id, to, now, m, ok)
				}
				if ok {
					parts++
				}
			}
		}
	})
	if parts == 0 {
		t.Error("no part was found")
	}
}

func TestHostKeep(t *testing.T) {
	h := oneHost()
	at := func(now int, want impl.Host) {
		t.Helper()
		if after := impl.HostKeep(h, now); !sameHost(after, want) {
			t.Errorf("HostKeep at %d = %s", now, hostText(after))
		}
	}
	second, eighth := got(bob, "Hop: one.org", "Id: 2", "x"), got(ann, "Id: ", "Id: a")
	at(-1, h)
	want := without(h, 8, ann)
	want.Boxes = []impl.Box{h.Boxes[0], box(ann, eighth), box(cat)}
	at(0, want)
	at(5, want)
	want = without(want, 2, ann)
	want.Boxes[1] = box(ann, second, eighth)
	at(6, want)
	want = without(want, 4, eve)
	want.Boxes[0] = box(eve, got(ann, "Id: 9"), got(impl.Addr{}), got(impl.Addr{}, "not delivered:", "<ann@one.org>", "Id: 1"))
	at(10, want)
	want = without(want, 2, cat)
	want.Boxes[2] = box(cat, second)
	at(20, want)
	at(impl.TimeMax, want)
	at(impl.TimeMax+1, want)
	at(1<<63-1, want)
}

func TestNewMailboxesAreInOrder(t *testing.T) {
	last := impl.Addr{User: "zz", Domain: "one.org"}
	h := hostWith(spoolOf(1, item(1, rcpt(last, 0, 0), rcpt(cat, 0, 0), rcpt(eve, 0, 0), rcpt(ann, 0, 0))))
	after := impl.HostKeep(h, 0)
	x := got(eve, "Hop: a", ".x")
	if want := (impl.Host{Conf: oneConf(), Spool: spoolOf(1), Boxes: []impl.Box{box(eve, x), box(ann, x), box(cat, x), box(last, x)}}); !sameHost(after, want) {
		t.Errorf("HostKeep(%s) = %s", hostText(h), hostText(after))
	}
}

// Promise 40.
func TestLocalDeliveryMovesRecipients(t *testing.T) {
	moved := 0
	for _, h := range goodHosts() {
		for _, now := range slices.Concat(times, badTimes) {
			after := impl.HostKeep(h, now)
			grown := mailsIn(after) - mailsIn(h)
			if !impl.HostOk(after) || grown != impl.SpoolMany(h.Spool)-impl.SpoolMany(after.Spool) {
				t.Errorf("HostKeep(%s, %d) = %s", hostText(h), now, hostText(after))
			}
			if again := impl.HostKeep(after, now); !sameHost(again, after) {
				t.Errorf("HostKeep(%s, %d) again = %s", hostText(h), now, hostText(again))
			}
			for _, x := range after.Spool.Items {
				if m, ok := impl.HostPart(after, x.Id, "", now); ok {
					t.Errorf("HostKeep(%s, %d) leaves %q", hostText(h), now, m)
				}
			}
			moved += grown
		}
	}
	if moved == 0 {
		t.Error("no message was delivered")
	}
}

func TestInvalidHosts(t *testing.T) {
	for _, h := range badHosts() {
		taken, takenOk := impl.HostTake(h, letter(), 5)
		out, outOk := impl.HostOut(h, 1, ann, impl.OutDone, 5)
		m, partOk := impl.HostPart(h, 1, "", impl.TimeMax)
		kept := impl.HostKeep(h, impl.TimeMax)
		if takenOk || outOk || partOk || !isZeroMail(m) || !sameHost(taken, impl.Host{}) || !sameHost(out, impl.Host{}) || !sameHost(kept, impl.Host{}) {
			t.Errorf("%s becomes %s, %s, %s and gives %q", hostText(h), hostText(taken), hostText(out), hostText(kept), m)
		}
		// An argument that is not valid either changes nothing.
		taken, takenOk = impl.HostTake(h, impl.Mail{}, -1)
		out, outOk = impl.HostOut(h, -1, impl.Addr{}, -1, -1)
		if takenOk || outOk || !sameHost(taken, impl.Host{}) || !sameHost(out, impl.Host{}) {
			t.Errorf("%s becomes %s, %s", hostText(h), hostText(taken), hostText(out))
		}
	}
}
