package tests

import (
	"fmt"
	"slices"
	"testing"

	"loop.example/satchel/impl"
)

func submit(host int, cut int, m impl.Mail) impl.Event {
	return impl.Event{Kind: impl.EventSubmit, Host: host, Cut: cut, Mail: m}
}

func try(host int, to int, id int, cut int) impl.Event {
	return impl.Event{Kind: impl.EventTry, Host: host, To: to, Id: id, Cut: cut}
}

func gone(host int, id int) impl.Event {
	return impl.Event{Kind: impl.EventGone, Host: host, Id: id}
}

func keep(host int) impl.Event {
	return impl.Event{Kind: impl.EventKeep, Host: host}
}

func tick(time int) impl.Event {
	return impl.Event{Kind: impl.EventTick, Id: time}
}

func losing(e impl.Event) impl.Event {
	e.Lose = true
	return e
}

func user(name string, domain string) impl.Addr {
	return impl.Addr{User: name, Domain: domain}
}

func own(name string, ways ...impl.Way) impl.Conf {
	return impl.Conf{Name: name, Own: []string{name}, Ways: ways}
}

func way(end string, to string) impl.Way {
	return impl.Way{End: end, To: to}
}

// twoHosts send mail for x.com round, and have no next host for net.
func twoHosts() []impl.Conf {
	return []impl.Conf{
		own("one.org", way("two.org", "two.org"), way("x.com", "two.org"), way("net", "gone.net")),
		own("two.org", way("one.org", "one.org"), way("x.com", "one.org")),
	}
}

// refusing is a host that sends mail to another one which does not take all of it.
func refusing() []impl.Conf {
	return []impl.Conf{own("one.org", way("org", "two.org"), way("x.com", "two.org")), own("two.org", way("one.org", "one.org"))}
}

func ring() []impl.Conf {
	return []impl.Conf{
		own("a.org", way("org", "b.org"), way("com", "b.org")), own("b.org", way("org", "c.org"), way("com", "c.org")), own("c.org", way("org", "a.org"), way("com", "a.org")),
	}
}

// chain has mail that passes HopMax hosts, as many as there may be.
func chain() []impl.Conf {
	return []impl.Conf{
		own("p", way("q", "q"), way("r", "q"), way("s", "q"), way("com", "q")), own("q", way("p", "p"), way("r", "r"), way("s", "r"), way("com", "r")),
		own("r", way("p", "q"), way("q", "q"), way("s", "s"), way("com", "s")), own("s", way("p", "r"), way("q", "r"), way("r", "r"), way("com", "p")),
	}
}

// selfish has a host with a route to itself.
func selfish() []impl.Conf {
	return []impl.Conf{own("one.org", way("two.org", "two.org"), way("x.com", "one.org")), own("two.org", way("one.org", "one.org"))}
}

// alike have a local domain in common.
func alike() []impl.Conf {
	list := []impl.Conf{own("one.org", way("two.org", "two.org")), own("two.org", way("one.org", "one.org"))}
	list[0].Own, list[1].Own = append(list[0].Own, "x.com"), append([]string{"x.com"}, list[1].Own...)
	return list
}

func lone() []impl.Conf {
	return []impl.Conf{own("one.org", way("net", "gone.net"))}
}

func allLists() [][]impl.Conf {
	return [][]impl.Conf{twoHosts(), refusing(), ring(), chain(), alike(), lone(), selfish()}
}

func sameWorld(a impl.World, b impl.World) bool {
	return slices.EqualFunc(a.Hosts, b.Hosts, sameHost) && a.Now == b.Now && a.Marks == b.Marks && slices.Equal(a.Given, b.Given)
}

func copyOfWorld(w impl.World) impl.World {
	w.Hosts, w.Given = slices.Clone(w.Hosts), slices.Clone(w.Given)
	for i, h := range w.Hosts {
		w.Hosts[i] = copyOfHost(h)
	}
	return w
}

func worldText(w impl.World) string {
	return fmt.Sprintf("%.1500s", fmt.Sprintf("%+v", w))
}

func eventText(e impl.Event) string {
	return fmt.Sprintf("{%d host %d to %d id %d cut %d lose %v %.300q}", e.Kind, e.Host, e.To, e.Id, e.Cut, e.Lose, e.Mail)
}

// after is w after some events, all of which must be possible.
func after(t *testing.T, w impl.World, events ...impl.Event) impl.World {
	t.Helper()
	for _, e := range events {
		next, ok := impl.WorldDo(w, e)
		if !ok || !impl.WorldOk(next) {
			t.Fatalf("%s is not possible in %s", eventText(e), worldText(w))
		}
		w = next
	}
	return w
}

func checkWorld(t *testing.T, got impl.World, want impl.World) {
	t.Helper()
	if !sameWorld(got, want) {
		t.Errorf("the world is %s, not %s", worldText(got), worldText(want))
	}
}

func checkImpossible(t *testing.T, w impl.World, list ...impl.Event) {
	t.Helper()
	for _, e := range list {
		if next, ok := impl.WorldDo(w, e); ok || !sameWorld(next, w) {
			t.Errorf("%s in %s: %s, %v", eventText(e), worldText(w), worldText(next), ok)
		}
	}
}

func hasRoom(h impl.Host) bool {
	return len(h.Spool.Items) < impl.SpoolMax && h.Spool.Last < impl.IdMax
}

// modelDo is chapter 8's WorldDo for a valid world, word by word, in terms of the functions of the chapters before.
func modelDo(w impl.World, e impl.Event) (impl.World, bool) {
	w = copyOfWorld(w)
	exists := func(at int) bool { return at >= 0 && at < len(w.Hosts) }
	switch {
	case e.Kind == impl.EventTick && e.Id >= 1 && e.Id <= impl.TickMax && w.Now+e.Id <= impl.TimeMax:
		w.Now += e.Id
		return w, true
	case e.Kind == impl.EventTick || !exists(e.Host):
		return w, false
	case e.Kind == impl.EventSubmit:
		return modelSubmit(w, e)
	case e.Kind == impl.EventTry && exists(e.To) && e.Host != e.To:
		return modelTry(w, e)
	case e.Kind == impl.EventGone:
		return modelGone(w, e)
	case e.Kind == impl.EventKeep:
		w.Hosts[e.Host] = impl.HostKeep(w.Hosts[e.Host], w.Now)
		return w, true
	}
	return w, false
}

func modelSubmit(w impl.World, e impl.Event) (impl.World, bool) {
	h := w.Hosts[e.Host]
	if !impl.MailOk(e.Mail) || len(e.Mail.Body) > impl.BodyMax-3 || impl.MarkOf(e.Mail.Body) != "" || w.Marks >= impl.MarkMax || !hasRoom(h) {
		return w, false
	}
	w.Marks++
	mark := fmt.Sprintf("Id: %d", w.Marks)
	m := e.Mail
	m.Body = append([]string{mark}, m.Body...)
	_, taken := impl.TalkAll(h.Conf, "client", m, min(max(e.Cut, 0), impl.CutMax))
	for _, x := range taken {
		w.Hosts[e.Host], _ = impl.HostTake(w.Hosts[e.Host], x, w.Now)
		for _, a := range x.To {
			w.Given = append(w.Given, impl.Loss{Mark: mark, Addr: a})
		}
	}
	return w, true
}

func modelTry(w impl.World, e impl.Event) (impl.World, bool) {
	to := w.Hosts[e.To]
	m, ok := impl.HostPart(w.Hosts[e.Host], e.Id, to.Conf.Name, w.Now)
	if !ok {
		return w, false
	}
	cut := min(max(e.Cut, 0), impl.CutMax)
	if !hasRoom(to) {
		cut = 0
	}
	outs, taken := impl.TalkAll(to.Conf, w.Hosts[e.Host].Conf.Name, m, cut)
	for _, x := range taken {
		w.Hosts[e.To], _ = impl.HostTake(w.Hosts[e.To], x, w.Now)
	}
	for i, a := range m.To {
		if !e.Lose {
			w.Hosts[e.Host], _ = impl.HostOut(w.Hosts[e.Host], e.Id, a, outs[i], w.Now)
		}
	}
	return w, true
}

func modelGone(w impl.World, e impl.Event) (impl.World, bool) {
	h, possible := w.Hosts[e.Host], false
	for _, x := range h.Spool.Items {
		for _, r := range x.To {
			next := impl.WayOf(h.Conf, r.Addr.Domain)
			known := slices.ContainsFunc(w.Hosts, func(h impl.Host) bool { return h.Conf.Name == next })
			if x.Id == e.Id && r.Next <= w.Now && !slices.Contains(h.Conf.Own, r.Addr.Domain) && (e.Lose || !known) {
				w.Hosts[e.Host], _ = impl.HostOut(w.Hosts[e.Host], e.Id, r.Addr, impl.OutTemp, w.Now)
				possible = true
			}
		}
	}
	return w, possible
}

// modelCalm is chapter 8's WorldCalm for a valid world, event by event.
func modelCalm(w impl.World, rounds int) impl.World {
	for range rounds {
		for at := range w.Hosts {
			w, _ = modelDo(w, keep(at))
			for _, id := range impl.SpoolDue(w.Hosts[at].Spool, w.Now) {
				for to := range w.Hosts {
					w, _ = modelDo(w, try(at, to, id, impl.CutMax))
				}
				w, _ = modelDo(w, gone(at, id))
			}
		}
		w, _ = modelDo(w, tick(impl.TickMax))
	}
	return w
}

// worldWith is a world of new hosts with a clock and a spool for each of the first of them.
func worldWith(list []impl.Conf, now int, spools ...impl.Spool) impl.World {
	w := impl.WorldNew(list)
	w.Now = now
	for i, s := range spools {
		w.Hosts[i].Spool = s
	}
	return w
}

// busyWorlds are worlds at their limits, which no short play reaches.
func busyWorlds() []impl.World {
	a, b, q, z := user("a", "one.org"), user("b", "two.org"), user("q", "x.com"), user("z", "no.net")
	full := func(first int, from impl.Addr, to ...impl.Addr) impl.Spool {
		s := manyItems(impl.SpoolMax, first)
		for i := range s.Items {
			s.Items[i].From, s.Items[i].Body, s.Items[i].To = from, []string{"Hop: one.org", fmt.Sprintf("Id: %d", i)}, nil
			for j, x := range to {
				s.Items[i].To = append(s.Items[i].To, rcpt(x, (i+j)%impl.TriesMax, i))
			}
		}
		return s
	}
	last := impl.IdMax - impl.SpoolMax + 1
	hops := impl.Item{Id: 3, From: a, To: []impl.Rcpt{rcpt(b, 0, 0), rcpt(q, 3, 0)}, Body: append(slices.Repeat([]string{"Hop: a"}, impl.HopMax), "Id: 3")}
	long := impl.Item{Id: 4, From: a, To: []impl.Rcpt{rcpt(b, 0, 0)}, Body: append([]string{"Id: 4"}, bodyOf(impl.BodyMax-1)...)}
	list := []impl.World{
		worldWith(twoHosts(), 5, full(1, a, b, a), full(1, b, q)), worldWith(twoHosts(), 5, full(1, a, b, z), spoolOf(impl.IdMax)), worldWith(twoHosts(), 5, full(1, z, b), spoolOf(impl.IdMax-1)),
		worldWith(twoHosts(), 5, full(last, a, b, q, z, a)), worldWith(twoHosts(), impl.TimeMax, full(1, a, q, z), full(1, impl.Addr{}, a)), worldWith(twoHosts(), impl.TimeMax-1, full(1, b, q)),
		worldWith(twoHosts(), impl.TimeMax-40, spoolOf(impl.IdMax)), worldWith(twoHosts(), impl.TimeMax-41, full(2, z, z)), worldWith(twoHosts(), 9, spoolOf(4, hops, long)), worldWith(selfish(), 9, spoolOf(4, hops, long)),
		worldWith(alike(), 3, spoolOf(4, hops, long), full(1, a, q)), worldWith(refusing(), 3, full(1, a, z, user("n", "no.org"), b, q)),
	}
	for i := range list {
		list[i].Marks = impl.MarkMax - i%3
		list[i].Given = []impl.Loss{{Mark: "Id: 3", Addr: b}, {Mark: "Id: 3", Addr: b}, {Mark: "Id: x", Addr: zoe}}
		list[i].Hosts[0].Boxes = []impl.Box{box(a, got(b, "Id: 3"), got(impl.Addr{}, "not delivered:", "<q@x.com>", "Id: 3"))}
		list[i].Hosts[0].Lost = []impl.Loss{{}, {Mark: "Id: 2", Addr: z}}
	}
	return list
}

func goodWorlds() []impl.World {
	list := busyWorlds()
	for _, confs := range allLists() {
		list = append(list, impl.WorldNew(confs))
	}
	h := impl.HostNew(own("a"))
	for _, g := range []impl.Loss{{Mark: "Id: 1", Addr: ann}, {Mark: "Id:  ", Addr: zoe}, {Mark: "Id: " + lineOf(impl.LineMax-4), Addr: longAddrs[0]}} {
		list = append(list, impl.World{Hosts: []impl.Host{h}, Given: []impl.Loss{g, {Mark: "Id: 1", Addr: ann}}}, impl.World{Hosts: []impl.Host{h}, Given: slices.Repeat([]impl.Loss{g}, 500)})
	}
	return append(list, impl.World{Hosts: []impl.Host{h}, Marks: impl.MarkMax}, impl.World{Hosts: []impl.Host{h}, Now: impl.TimeMax}, impl.World{Hosts: []impl.Host{oneHost()}})
}

func badWorlds() []impl.World {
	a, b := impl.HostNew(own("a")), impl.HostNew(own("b"))
	good := []impl.Host{a}
	list := []impl.World{
		{}, {Now: 1, Marks: 1}, {Hosts: []impl.Host{}}, {Hosts: []impl.Host{a, a}}, {Hosts: []impl.Host{a, b, a}}, {Hosts: []impl.Host{b, a, a}},
		{Hosts: []impl.Host{a, {Conf: impl.Conf{Name: "a", Own: []string{"b"}}}}}, {Hosts: slices.Repeat(good, 1000)}, {Hosts: hostsNamed("a", "b", "c", "d", "e")},
		{Hosts: good, Marks: -1}, {Hosts: good, Marks: impl.MarkMax + 1}, {Hosts: good, Marks: -1 << 63}, {Hosts: good, Marks: 1 << 40},
	}
	for _, now := range badTimes {
		list = append(list, impl.World{Hosts: good, Now: now})
	}
	for _, h := range badHosts() {
		list = append(list, impl.World{Hosts: []impl.Host{h}}, impl.World{Hosts: []impl.Host{impl.HostNew(own("first")), h}})
	}
	for _, mark := range []string{"", "x", "Id: ", "Id:", "id: 1", " Id: 1", "x\r\nId: 1", "Id: 1\n", "Id: \x7f", "Id: " + lineOf(impl.LineMax-3), lineOf(100000)} {
		list = append(list, impl.World{Hosts: good, Given: []impl.Loss{{Mark: mark, Addr: ann}}}, impl.World{Hosts: good, Given: []impl.Loss{{Mark: "Id: 1", Addr: ann}, {Mark: mark, Addr: ann}}})
	}
	for _, x := range append(slices.Clone(badAddrs), impl.Addr{}) {
		list = append(list, impl.World{Hosts: good, Given: []impl.Loss{{Mark: "Id: 1", Addr: ann}, {Mark: "Id: 1", Addr: x}}}, impl.World{Hosts: good, Given: []impl.Loss{{Mark: "Id: 1", Addr: x}}})
	}
	return list
}

func hostsNamed(names ...string) []impl.Host {
	var list []impl.Host
	for _, name := range names {
		list = append(list, impl.HostNew(own(name)))
	}
	return list
}

func TestWorldOk(t *testing.T) {
	for _, w := range goodWorlds() {
		if !impl.WorldOk(w) {
			t.Errorf("%s is valid", worldText(w))
		}
	}
	for _, w := range badWorlds() {
		if impl.WorldOk(w) {
			t.Errorf("%s is not valid", worldText(w))
		}
	}
}

// Promise 41.
func TestNewWorldIsEmpty(t *testing.T) {
	for _, list := range append(allLists(), []impl.Conf{oneConf(), own("x")}) {
		w := impl.WorldNew(list)
		want := impl.World{}
		for _, c := range list {
			want.Hosts = append(want.Hosts, impl.Host{Conf: c})
		}
		if !sameWorld(w, want) || !impl.WorldOk(w) || impl.WorldKept(w) != 0 || !slices.Equal(impl.LookMany(w), []int{0, 0, 0, 0}) {
			t.Errorf("WorldNew(%q) = %s", list, worldText(w))
		}
	}
}

func badLists() [][]impl.Conf {
	names := []impl.Conf{own("a"), own("b"), own("c"), own("d"), own("e")}
	list := [][]impl.Conf{nil, {}, names, {own("a"), own("a")}, {own("a"), own("b"), own("c"), own("a")}, {own("a"), {Name: "a", Own: []string{"b"}}}, slices.Repeat(names, 100)}
	for _, c := range badConfs() {
		list = append(list, []impl.Conf{c}, []impl.Conf{own("first"), c})
	}
	return list
}

func TestWorldsOfInvalidConfigurations(t *testing.T) {
	for _, list := range badLists() {
		if w := impl.WorldNew(list); !sameWorld(w, impl.World{}) {
			t.Errorf("WorldNew(%.200q) = %s", list, worldText(w))
		}
		if w := impl.WorldPlay(list, []impl.Event{tick(3), keep(0), submit(0, impl.CutMax, letter())}); !sameWorld(w, impl.World{}) {
			t.Errorf("WorldPlay(%.200q) = %s", list, worldText(w))
		}
	}
	for n := range 7 {
		list := []impl.Conf{own("a"), own("b"), own("c"), own("d"), own("e"), own("f")}[:n]
		if len(impl.WorldNew(list).Hosts) != n && n <= impl.HostsMax || impl.WorldOk(impl.WorldNew(list)) != (n >= 1 && n <= impl.HostsMax) {
			t.Errorf("a world of %d hosts", n)
		}
	}
}

func hi(from impl.Addr, to ...impl.Addr) impl.Mail {
	return impl.Mail{From: from, To: to, Body: []string{"hi"}}
}

func TestOneMessage(t *testing.T) {
	a, b := user("a", "one.org"), user("b", "two.org")
	w := after(t, impl.WorldNew(twoHosts()), tick(3), submit(0, impl.CutMax, hi(a, b, user("q", "no.org"), a)))
	want := impl.WorldNew(twoHosts())
	want.Now, want.Marks, want.Given = 3, 1, []impl.Loss{{Mark: "Id: 1", Addr: b}, {Mark: "Id: 1", Addr: a}}
	want.Hosts[0].Spool = spoolOf(1, impl.Item{Id: 1, From: a, To: []impl.Rcpt{rcpt(b, 0, 3), rcpt(a, 0, 3)}, Body: []string{"Hop: one.org", "Id: 1", "hi"}})
	checkWorld(t, w, want)
	w = after(t, w, keep(0))
	want.Hosts[0].Spool.Items[0].To = []impl.Rcpt{rcpt(b, 0, 3)}
	want.Hosts[0].Boxes = []impl.Box{box(a, got(a, "Hop: one.org", "Id: 1", "hi"))}
	checkWorld(t, w, want)
	// Ten transmissions deliver the message, and the reply to it is the eleventh.
	cut := after(t, w, try(0, 1, 1, 10))
	body := []string{"Hop: two.org", "Hop: one.org", "Id: 1", "hi"}
	want.Hosts[0].Spool.Items[0].To = []impl.Rcpt{rcpt(b, 1, 5)}
	want.Hosts[1].Spool = spoolOf(1, impl.Item{Id: 1, From: a, To: []impl.Rcpt{rcpt(b, 0, 3)}, Body: body})
	checkWorld(t, cut, want)
	checkImpossible(t, cut, try(0, 1, 1, impl.CutMax))
	twice := after(t, cut, tick(2), try(0, 1, 1, impl.CutMax), keep(1))
	want.Now, want.Hosts[0].Spool, want.Hosts[1].Spool = 5, spoolOf(1), spoolOf(2)
	want.Hosts[1].Boxes = []impl.Box{box(b, got(a, body...), got(a, body...))}
	checkWorld(t, twice, want)
	once := after(t, w, try(0, 1, 1, 11), keep(1))
	want.Now, want.Hosts[1].Spool = 3, spoolOf(1)
	want.Hosts[1].Boxes = []impl.Box{box(b, got(a, body...))}
	checkWorld(t, once, want)
}

func TestLostResult(t *testing.T) {
	a, b := user("a", "one.org"), user("b", "two.org")
	w := after(t, impl.WorldNew(twoHosts()), submit(0, impl.CutMax, hi(a, b)))
	x := after(t, w, losing(try(0, 1, 1, impl.CutMax)))
	want := copyOfWorld(w)
	want.Hosts[1].Spool = spoolOf(1, impl.Item{Id: 1, From: a, To: []impl.Rcpt{rcpt(b, 0, 0)}, Body: []string{"Hop: two.org", "Hop: one.org", "Id: 1", "hi"}})
	checkWorld(t, x, want)
	x = after(t, x, losing(try(0, 1, 1, impl.CutMax)), losing(try(0, 1, 1, 0)), try(0, 1, 1, impl.CutMax), keep(1))
	if many := impl.LookMany(x); !slices.Equal(many, []int{0, 0, 3, 0}) || impl.LookTwice(x) != 1 || impl.WorldKept(x) != 0 {
		t.Errorf("three deliveries: %s", worldText(x))
	}
	// What comes of a lost result is not a bounce either.
	w = after(t, impl.WorldNew(refusing()), submit(0, impl.CutMax, hi(a, user("n", "no.org"))))
	checkWorld(t, after(t, w, losing(try(0, 1, 1, impl.CutMax))), w)
}

// TestCutAtEachPlace has a dialogue of 11 + 2n transmissions up to the reply to QUIT: with 8 + 2n the host has the message of
// n recipients, and with 9 + 2n the client knows.
func TestCutAtEachPlace(t *testing.T) {
	cuts := []int{-1 << 63, 1<<63 - 1, 1 << 40}
	for cut := -3; cut < impl.CutMax+4; cut++ {
		cuts = append(cuts, cut)
	}
	for n := 1; n <= impl.ToMax; n++ {
		var to []impl.Addr
		for i := range n {
			to = append(to, user(fmt.Sprintf("b%d", i), "two.org"))
		}
		m := hi(user("a", "one.org"), to...)
		w := after(t, impl.WorldNew(twoHosts()), submit(0, impl.CutMax, m))
		for _, cut := range cuts {
			taken, known := cut >= 8+2*n, cut >= 9+2*n
			x := after(t, impl.WorldNew(twoHosts()), submit(0, cut, m))
			if x.Marks != 1 || len(x.Given) != len(x.Hosts[0].Spool.Items)*n || (len(x.Given) == n) != taken {
				t.Errorf("submitting for %d, cut at %d: %s", n, cut, worldText(x))
			}
			x = after(t, w, try(0, 1, 1, cut))
			items := x.Hosts[0].Spool.Items
			if len(x.Hosts[1].Spool.Items) != 0 != taken || len(items) == 0 != known {
				t.Errorf("delivering for %d, cut at %d: %s", n, cut, worldText(x))
			}
			if !known && (len(items[0].To) != n || items[0].To[n-1] != rcpt(to[n-1], 1, 2)) {
				t.Errorf("delivering for %d, cut at %d: %s", n, cut, worldText(x))
			}
			checkWorld(t, x, must(modelDo(w, try(0, 1, 1, cut))))
		}
	}
}

func must(w impl.World, ok bool) impl.World {
	if !ok {
		return impl.World{}
	}
	return w
}

// TestRefusedRecipients is about a host that refuses some of the recipients, and a connection that breaks before or after it says so.
func TestRefusedRecipients(t *testing.T) {
	a, b, n := user("a", "one.org"), user("b", "two.org"), user("n", "no.org")
	w := after(t, impl.WorldNew(refusing()), submit(0, impl.CutMax, hi(a, n, b)))
	for cut := 0; cut <= impl.CutMax; cut++ {
		x := after(t, w, try(0, 1, 1, cut))
		checkWorld(t, x, must(modelDo(w, try(0, 1, 1, cut))))
		var want []impl.Item
		to := []impl.Rcpt{rcpt(n, 1, 2), rcpt(b, 1, 2)}
		if cut >= 7 {
			to = to[1:]
		}
		if cut < 13 {
			want = append(want, impl.Item{Id: 1, From: a, To: to, Body: []string{"Hop: one.org", "Id: 1", "hi"}})
		}
		if cut >= 7 {
			want = append(want, bounceItem(2, a, 0, "<n@no.org>", "Id: 1"))
		}
		if !slices.EqualFunc(x.Hosts[0].Spool.Items, want, sameItem) {
			t.Errorf("cut at %d: %s", cut, worldText(x))
		}
	}
	x := after(t, w, try(0, 1, 1, impl.CutMax), keep(0))
	if list := impl.LookBox(x, a); len(list) != 1 || !sameGot(list[0], got(impl.Addr{}, "not delivered:", "<n@no.org>", "Id: 1")) {
		t.Errorf("the bounce arrives as %q", list)
	}
}

func TestMailThatGoesRound(t *testing.T) {
	a, q := user("a", "a.org"), user("q", "x.com")
	w := after(t, impl.WorldNew(ring()), submit(0, impl.CutMax, hi(a, q)))
	w = after(t, w, try(0, 1, 1, impl.CutMax), try(1, 2, 1, impl.CutMax), try(2, 0, 1, impl.CutMax))
	body := []string{"Hop: a.org", "Hop: c.org", "Hop: b.org", "Hop: a.org", "Id: 1", "hi"}
	if x := w.Hosts[0].Spool; !sameSpool(x, spoolOf(2, impl.Item{Id: 2, From: a, To: []impl.Rcpt{rcpt(q, 0, 0)}, Body: body})) {
		t.Errorf("round once: %s", spoolText(x))
	}
	// The body has HopMax trace lines now, and the next host does not take it.
	w = after(t, w, try(0, 1, 2, impl.CutMax))
	if x := w.Hosts[0].Spool; !sameSpool(x, spoolOf(3, bounceItem(3, a, 0, "<q@x.com>", "Id: 1"))) || len(w.Hosts[1].Spool.Items) != 0 {
		t.Errorf("round more than once: %s", worldText(w))
	}
	// A bounce that goes round too begins without trace lines, and is lost one host further.
	w = after(t, impl.WorldNew(ring()), submit(0, impl.CutMax, hi(q, user("r", "y.com"))))
	w = impl.WorldCalm(w, 5)
	if lost := w.Hosts[1].Lost; !slices.Equal(lost, []impl.Loss{{Mark: "Id: 1", Addr: q}}) || !slices.Equal(impl.LookMany(w), []int{0, 0, 0, 1}) {
		t.Errorf("a bounce that goes round: %s", worldText(w))
	}
}

func TestTraceLinesAtTheNextHost(t *testing.T) {
	a, b := user("a", "one.org"), user("b", "two.org")
	for n := range impl.HopMax + 3 {
		w := worldWith(twoHosts(), 0, spoolOf(1, impl.Item{Id: 1, From: a, To: []impl.Rcpt{rcpt(b, 0, 0)}, Body: append(slices.Repeat([]string{"Hop: a"}, n), "Id: 1")}))
		w = after(t, w, try(0, 1, 1, impl.CutMax))
		if taken := len(w.Hosts[1].Spool.Items) == 1; taken != (n < impl.HopMax) || len(w.Hosts[0].Spool.Items) == 0 != taken {
			t.Errorf("%d trace lines: %s", n, worldText(w))
		}
	}
}

func TestLongMessages(t *testing.T) {
	a := user("a", "p")
	for n := range impl.BodyMax + 3 {
		e := submit(0, impl.CutMax, impl.Mail{From: a, To: []impl.Addr{user("b", "s")}, Body: bodyOf(n)})
		if n >= impl.BodyMax-2 {
			checkImpossible(t, impl.WorldNew(chain()), e)
			continue
		}
		w := after(t, impl.WorldNew(chain()), e, try(0, 1, 1, impl.CutMax), try(1, 2, 1, impl.CutMax))
		// The second host adds the last line that there is room for.
		bounced := n == impl.BodyMax-3
		if x := w.Hosts[1].Spool.Items; (len(x) == 1) != bounced || len(w.Hosts[2].Spool.Items) == 1 == bounced {
			t.Errorf("%d lines: %s", n, worldText(w))
		} else if bounced && !sameItem(x[0], bounceItem(2, a, 0, "<b@s>", "Id: 1")) {
			t.Errorf("%d lines: %s", n, worldText(w))
		}
	}
}

func TestMessagesThatCannotBeSubmitted(t *testing.T) {
	w := impl.WorldNew(twoHosts())
	a := user("a", "one.org")
	for _, body := range [][]string{{"Id: 1"}, {"x", "Id: x"}, {"Hop: a", "Id:  "}, append(bodyOf(8), "Id: 1"), bodyOf(impl.BodyMax - 2), bodyOf(impl.BodyMax)} {
		checkImpossible(t, w, submit(0, impl.CutMax, impl.Mail{From: a, To: []impl.Addr{a}, Body: body}))
	}
	eachBadMail(func(m impl.Mail) { checkImpossible(t, w, submit(0, impl.CutMax, m)) })
	for _, body := range [][]string{nil, {"Id: "}, {"x", "id: 1", "Id:1"}, {"Hop: a"}, bodyOf(impl.BodyMax - 3)} {
		x := after(t, w, submit(0, impl.CutMax, impl.Mail{To: []impl.Addr{a}, Body: body}))
		if want := append([]string{"Hop: one.org", "Id: 1"}, body...); !slices.Equal(x.Hosts[0].Spool.Items[0].Body, want) {
			t.Errorf("the message becomes %q", x.Hosts[0].Spool.Items[0].Body)
		}
	}
	// A message that the host takes for nobody is one that was submitted.
	x := after(t, w, submit(0, impl.CutMax, hi(a, user("n", "no.org"))))
	w.Marks = 1
	checkWorld(t, x, w)
}

func TestMarkMaxSubmissions(t *testing.T) {
	a := user("a", "one.org")
	w := impl.WorldNew(lone())
	for i := range impl.MarkMax {
		w = after(t, w, submit(0, impl.CutMax, hi(a, a)), keep(0))
		if w.Marks != i+1 || w.Given[i] != (impl.Loss{Mark: fmt.Sprintf("Id: %d", i+1), Addr: a}) {
			t.Errorf("submission %d: %s", i+1, worldText(w))
		}
	}
	checkImpossible(t, w, submit(0, impl.CutMax, hi(a, a)), submit(0, 0, hi(a, a)))
	if list := impl.LookBox(w, a); len(list) != impl.MarkMax || list[impl.MarkMax-1].Body[1] != "Id: 60" {
		t.Errorf("the mailbox is %q", list)
	}
}

func TestSpoolsWithoutRoom(t *testing.T) {
	a, b := user("a", "one.org"), user("b", "two.org")
	w := impl.WorldNew(twoHosts())
	for i := range impl.SpoolMax {
		w = after(t, w, submit(1, impl.CutMax, hi(b, a)), submit(0, impl.CutMax, hi(a, b, user("q", "x.com"))))
		if len(w.Hosts[1].Spool.Items) != i+1 {
			t.Errorf("message %d: %s", i+1, worldText(w))
		}
	}
	checkImpossible(t, w, submit(0, impl.CutMax, hi(a, a)), submit(1, impl.CutMax, hi(a, a)))
	// Nothing is delivered to a host without room, and that is a temporary failure.
	x := after(t, w, try(0, 1, 4, impl.CutMax))
	want := copyOfWorld(w)
	want.Hosts[0].Spool.Items[3].To = []impl.Rcpt{rcpt(b, 1, 2), rcpt(user("q", "x.com"), 1, 2)}
	checkWorld(t, x, want)
	checkWorld(t, after(t, w, losing(try(0, 1, 4, impl.CutMax))), w)
	// After TriesMax attempts the first recipient is lost, and the second one makes room for its bounce.
	for _, pause := range []int{2, 4, 8} {
		x = after(t, x, tick(pause), try(0, 1, 4, impl.CutMax))
	}
	want.Now = 14
	want.Hosts[0].Lost = []impl.Loss{{Mark: "Id: 8", Addr: b}}
	want.Hosts[0].Spool = spoolOf(11, append(slices.Delete(want.Hosts[0].Spool.Items, 3, 4), bounceItem(11, a, 14, "<q@x.com>", "Id: 8"))...)
	checkWorld(t, x, want)
	for _, last := range []int{impl.IdMax, impl.IdMax - 1} {
		w = after(t, impl.WorldNew(twoHosts()), submit(0, impl.CutMax, hi(a, b)))
		w.Hosts[1].Spool.Last = last
		x = after(t, w, try(0, 1, 1, impl.CutMax))
		if taken := x.Hosts[1].Spool.Last > last; taken || last < impl.IdMax {
			if !taken || len(x.Hosts[0].Spool.Items) != 0 || x.Hosts[1].Spool.Items[0].Id != impl.IdMax {
				t.Errorf("a last Id of %d: %s", last, worldText(x))
			}
			continue
		}
		if x.Hosts[0].Spool.Items[0].To[0] != rcpt(b, 1, 2) {
			t.Errorf("a last Id of %d: %s", last, worldText(x))
		}
		checkImpossible(t, w, submit(1, impl.CutMax, hi(a, b)))
	}
}

func TestNoNextHost(t *testing.T) {
	a, b, z, q := user("a", "one.org"), user("b", "two.org"), user("z", "z.net"), user("q", "no.org")
	w := worldWith(twoHosts(), 5, spoolOf(2,
		impl.Item{Id: 1, From: a, To: []impl.Rcpt{rcpt(a, 0, 5), rcpt(b, 0, 5), rcpt(z, 0, 5), rcpt(q, 3, 5), rcpt(user("y", "y.net"), 0, 6)}[1:], Body: []string{"Id: 1"}},
		impl.Item{Id: 2, To: []impl.Rcpt{rcpt(a, 0, 0), rcpt(b, 0, 0), rcpt(z, 0, 6)}}))
	x := after(t, w, gone(0, 1))
	want := copyOfWorld(w)
	want.Hosts[0].Spool.Items[0].To = []impl.Rcpt{rcpt(b, 0, 5), rcpt(z, 1, 7), rcpt(user("y", "y.net"), 0, 6)}
	want.Hosts[0].Spool.Last, want.Hosts[0].Spool.Items = 3, append(want.Hosts[0].Spool.Items, bounceItem(3, a, 5, "<q@no.org>", "Id: 1"))
	checkWorld(t, x, want)
	checkImpossible(t, x, gone(0, 1), gone(0, 2), gone(0, 3), gone(1, 1), gone(2, 1), gone(-1, 1), gone(0, 0), gone(0, 4))
	// Lose has those with a next host in the world fail too, but not those that are local or not due.
	x = after(t, w, losing(gone(0, 1)))
	want.Hosts[0].Spool.Items[0].To[0] = rcpt(b, 1, 7)
	checkWorld(t, x, want)
	x = after(t, w, losing(gone(0, 2)))
	if to := x.Hosts[0].Spool.Items[1].To; !slices.Equal(to, []impl.Rcpt{rcpt(a, 0, 0), rcpt(b, 1, 7), rcpt(z, 0, 6)}) {
		t.Errorf("a lost next host: %v", to)
	}
	checkImpossible(t, x, losing(gone(0, 2)), losing(gone(0, 3)))
}

func TestRouteToItself(t *testing.T) {
	q := user("q", "x.com")
	w := after(t, impl.WorldNew(selfish()), submit(0, impl.CutMax, hi(user("a", "one.org"), q)))
	checkImpossible(t, w, try(0, 0, 1, impl.CutMax), try(0, 1, 1, impl.CutMax), gone(0, 1))
	// Its mail is kept for ever, and not lost.
	calm := impl.WorldCalm(w, impl.CalmMax)
	want := copyOfWorld(w)
	want.Now = impl.CalmMax * impl.TickMax
	checkWorld(t, calm, want)
	if impl.WorldKept(calm) != 0 {
		t.Errorf("WorldKept(%s) = %d", worldText(calm), impl.WorldKept(calm))
	}
	x := after(t, w, losing(gone(0, 1)))
	if x.Hosts[0].Spool.Items[0].To[0] != rcpt(q, 1, 2) {
		t.Errorf("a lost next host: %s", worldText(x))
	}
}

func TestTicks(t *testing.T) {
	w := impl.WorldNew(lone())
	for _, now := range []int{0, 1, 100, impl.TimeMax - impl.TickMax - 1, impl.TimeMax - impl.TickMax, impl.TimeMax - impl.TickMax + 1, impl.TimeMax - 2, impl.TimeMax - 1, impl.TimeMax} {
		w.Now = now
		for id := -2; id < impl.TickMax+4; id++ {
			want := copyOfWorld(w)
			want.Now += id
			if id < 1 || id > impl.TickMax || want.Now > impl.TimeMax {
				checkImpossible(t, w, tick(id))
				continue
			}
			checkWorld(t, after(t, w, tick(id)), want)
			// A tick is not an event of a host.
			checkWorld(t, after(t, w, impl.Event{Kind: impl.EventTick, Host: -1, To: 9, Id: id}), want)
		}
		checkImpossible(t, w, tick(1<<63-1), tick(-1<<63), tick(1<<40))
	}
}

func TestImpossibleEvents(t *testing.T) {
	a, b := user("a", "one.org"), user("b", "two.org")
	w := after(t, impl.WorldNew(twoHosts()), submit(0, impl.CutMax, hi(a, b)), tick(5))
	w.Hosts[0].Spool.Items = append(w.Hosts[0].Spool.Items, impl.Item{Id: 2, From: a, To: []impl.Rcpt{rcpt(b, 0, 6)}})
	w.Hosts[0].Spool.Last = 2
	for _, at := range []int{-1, 2, 3, 4, 1 << 40, -1 << 63, 1<<63 - 1} {
		checkImpossible(t, w, submit(at, impl.CutMax, hi(a, a)), try(at, 1, 1, impl.CutMax), try(0, at, 1, impl.CutMax), try(at, at, 1, impl.CutMax), gone(at, 1), keep(at))
	}
	for _, id := range []int{0, -1, 2, 3, 1 << 40, -1 << 63, 1<<63 - 1} {
		checkImpossible(t, w, try(0, 1, id, impl.CutMax), gone(0, id), losing(gone(0, id)))
	}
	checkImpossible(t, w, try(1, 0, 1, impl.CutMax), try(0, 0, 1, impl.CutMax), try(1, 1, 1, impl.CutMax), gone(0, 1))
	for _, kind := range []int{0, -1, 6, 1 << 40, -1 << 63, 1<<63 - 1} {
		checkImpossible(t, w, impl.Event{Kind: kind}, impl.Event{Kind: kind, To: 1, Id: 1, Cut: impl.CutMax, Mail: hi(a, a)})
	}
	for _, bad := range badWorlds() {
		for _, e := range []impl.Event{tick(1), keep(0), submit(0, impl.CutMax, hi(a, a)), {}} {
			if next, ok := impl.WorldDo(bad, e); ok || !sameWorld(next, impl.World{}) {
				t.Errorf("%s in %s: %s, %v", eventText(e), worldText(bad), worldText(next), ok)
			}
		}
	}
}
