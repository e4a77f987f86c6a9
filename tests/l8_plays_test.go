package tests

import (
	"fmt"
	"math/rand/v2"
	"slices"
	"testing"

	"loop.example/satchel/impl"
)

// someBodies are bodies that clients try to submit.
func someBodies() [][]string {
	return [][]string{
		nil, {"hi"}, {".hi", ""}, {"Id: ", "x"}, {"Id: 9"}, {"x", "Id: 9"}, {"Hop: a", "Hop: b"}, slices.Repeat([]string{"Hop: a"}, impl.HopMax), {"not delivered:", "<a@one.org>"},
		bodyOf(impl.BodyMax - 4), bodyOf(impl.BodyMax - 3), bodyOf(impl.BodyMax - 2),
	}
}

// domainsOf are the domains of which the hosts of a list know, and one of which they do not.
func domainsOf(list []impl.Conf) []string {
	domains := []string{"no.org"}
	for _, c := range list {
		domains = append(domains, c.Own...)
		for _, w := range c.Ways {
			domains = append(domains, w.End)
		}
	}
	return domains
}

// player makes up events for the hosts of a list; one who is careful has no EventTry that loses something.
type player struct {
	*rand.Rand
	hosts   int
	domains []string
	careful bool
}

func pick[T any](p player, list []T) T {
	return list[p.IntN(len(list))]
}

func (p player) addr() impl.Addr {
	return user(pick(p, []string{"a", "b"}), pick(p, p.domains))
}

func (p player) mail() impl.Mail {
	m := impl.Mail{From: p.addr(), Body: pick(p, someBodies())}
	if p.IntN(3) == 0 {
		m.From = impl.Addr{}
	}
	// Some of these have a recipient twice, and are not valid.
	for range 1 + p.IntN(impl.ToMax) {
		if a := p.addr(); !slices.Contains(m.To, a) || p.IntN(8) == 0 {
			m.To = append(m.To, a)
		}
	}
	return m
}

func (p player) cut() int {
	if p.IntN(2) == 0 {
		return impl.CutMax + p.IntN(2)
	}
	return p.IntN(20) - 1
}

// event is one that may not be possible; the hosts and Ids are mostly those of items that are there.
func (p player) event(w impl.World) impl.Event {
	e := impl.Event{Kind: 1 + p.IntN(5), Host: p.IntN(p.hosts+1) - p.IntN(8)/7, To: p.IntN(p.hosts + 1), Id: p.IntN(6), Cut: p.cut(), Lose: p.IntN(5) == 0}
	if p.careful && e.Kind == impl.EventTry {
		e.Cut, e.Lose = impl.CutMax+p.IntN(2), false
	}
	switch {
	case e.Kind == impl.EventSubmit:
		e.Mail = p.mail()
	case e.Kind == impl.EventTick && p.IntN(8) == 0:
		e.Id = p.IntN(impl.TickMax+3) - 1
	case e.Kind == impl.EventTry || e.Kind == impl.EventGone:
		p.aim(w, &e)
	}
	return e
}

// aim looks a few times for an item at a host, and mostly for the host to which a recipient of it leads.
func (p player) aim(w impl.World, e *impl.Event) {
	for range 4 {
		at := p.IntN(p.hosts)
		if items := w.Hosts[at].Spool.Items; len(items) > 0 {
			x := pick(p, items)
			next := impl.WayOf(w.Hosts[at].Conf, pick(p, x.To).Addr.Domain)
			to := slices.IndexFunc(w.Hosts, func(h impl.Host) bool { return h.Conf.Name == next })
			e.Host, e.Id = at, x.Id
			if to >= 0 && p.IntN(4) > 0 {
				e.To = to
			}
			return
		}
	}
}

// flood fills spools, as it never delivers to mailboxes and seldom to other hosts.
func (p player) flood(w impl.World) impl.Event {
	for {
		if e := p.event(w); e.Kind == impl.EventSubmit || e.Kind == impl.EventGone || e.Kind == impl.EventTick || e.Kind == impl.EventTry && p.IntN(4) == 0 {
			return e
		}
	}
}

// someList has hosts with any local domains and routes, but none to itself.
func someList(r *rand.Rand) []impl.Conf {
	domains := []string{"a.org", "b.org", "c.org", "d.net", "org", "net", "x.com", "gone.net"}
	p := player{Rand: r}
	var list []impl.Conf
	for _, name := range domains[:1+p.IntN(impl.HostsMax)] {
		c := impl.Conf{Name: name}
		for range p.IntN(impl.OwnMax + 1) {
			c.Own = append(c.Own, pick(p, domains))
		}
		for range p.IntN(impl.WaysMax + 1) {
			if to := pick(p, domains); to != name {
				c.Ways = append(c.Ways, way(pick(p, domains), to))
			}
		}
		list = append(list, c)
	}
	return list
}

// eachPlay calls f for lists of hosts and PlayMax events, the same ones each time.
func eachPlay(many int, careful bool, f func(list []impl.Conf, events []impl.Event)) {
	source := rand.New(rand.NewPCG(7, 11))
	for i := range many {
		list := slices.Concat(allLists(), [][]impl.Conf{someList(source), someList(source)})[i%(len(allLists())+2)]
		p := player{source, len(list), domainsOf(list), careful}
		next := []func(impl.World) impl.Event{p.event, p.event, p.flood}[i%3]
		w, events := impl.WorldNew(list), []impl.Event{}
		for range impl.PlayMax {
			e := next(w)
			w, _ = impl.WorldDo(w, e)
			events = append(events, e)
		}
		f(list, events)
	}
}

// eachStep calls f for each event of a play, with the worlds before and after it.
func eachStep(many int, f func(before impl.World, e impl.Event, after impl.World, ok bool)) {
	eachPlay(many, false, func(list []impl.Conf, events []impl.Event) {
		w := impl.WorldNew(list)
		for _, e := range events {
			next, ok := impl.WorldDo(w, e)
			f(w, e, next, ok)
			w = next
		}
	})
}

// eachEvent are events of every kind, possible or not, for a world of two hosts.
func eachEvent(f func(e impl.Event)) {
	p := player{rand.New(rand.NewPCG(3, 5)), 2, domainsOf(twoHosts()), false}
	for range 100 {
		f(p.event(impl.WorldNew(twoHosts())))
	}
	for id := range 5 {
		for _, cut := range []int{0, 7, 9, 10, 11, 12, 13, impl.CutMax} {
			f(try(0, 1, id, cut))
			f(try(1, 0, id, cut))
			f(losing(try(0, 1, id, cut)))
		}
		f(gone(0, id))
		f(losing(gone(1, id)))
	}
}

// Promise 42.
func TestImpossibleEventsChangeNothing(t *testing.T) {
	possible, not := map[int]int{}, map[int]int{}
	check := func(w impl.World, e impl.Event, next impl.World, ok bool) {
		want, may := modelDo(w, e)
		if ok != may || !sameWorld(next, want) || !impl.WorldOk(next) || !ok && !sameWorld(next, w) {
			t.Errorf("%s in %s: %s, %v", eventText(e), worldText(w), worldText(next), ok)
		}
		if next.Now < w.Now || len(next.Given) < len(w.Given) || !slices.Equal(next.Given[:len(w.Given)], w.Given) {
			t.Errorf("%s in %s goes back: %s", eventText(e), worldText(w), worldText(next))
		}
		if ok {
			possible[e.Kind]++
		} else {
			not[e.Kind]++
		}
	}
	eachStep(140, check)
	for _, w := range busyWorlds() {
		eachEvent(func(e impl.Event) {
			next, ok := impl.WorldDo(w, e)
			check(w, e, next, ok)
		})
	}
	for kind := impl.EventSubmit; kind <= impl.EventTick; kind++ {
		if possible[kind] < 50 || not[kind] < 50 {
			t.Errorf("events of kind %d: %d possible, %d not", kind, possible[kind], not[kind])
		}
	}
}

// Promise 43.
func TestWorldPlayIsASequenceOfEvents(t *testing.T) {
	eachPlay(28, false, func(list []impl.Conf, events []impl.Event) {
		w := impl.WorldNew(list)
		for i := range events {
			if x := impl.WorldPlay(list, events[:i]); !sameWorld(x, w) {
				t.Errorf("WorldPlay(%q) of %d events = %s, not %s", list, i, worldText(x), worldText(w))
			}
			w, _ = impl.WorldDo(w, events[i])
		}
		for _, more := range [][]impl.Event{nil, {tick(1)}, {keep(0), tick(3)}, slices.Repeat([]impl.Event{tick(1)}, 1000)} {
			if x := impl.WorldPlay(list, slices.Concat(events, more)); !sameWorld(x, w) {
				t.Errorf("WorldPlay of PlayMax + %d events = %s, not %s", len(more), worldText(x), worldText(w))
			}
		}
	})
	for n := range impl.PlayMax + 3 {
		for _, e := range []impl.Event{tick(2), keep(9)} {
			// An event that is not possible is one of the PlayMax too.
			events := append(slices.Repeat([]impl.Event{e}, n), tick(1))
			want := 2*min(n, impl.PlayMax) + 1
			if e.Kind == impl.EventKeep {
				want = 1
			}
			if n >= impl.PlayMax {
				want--
			}
			if w := impl.WorldPlay(lone(), events); w.Now != want {
				t.Errorf("%d events and a tick: Now is %d, not %d", n, w.Now, want)
			}
		}
	}
	checkWorld(t, impl.WorldPlay(ring(), nil), impl.WorldNew(ring()))
}

func reports(body []string, a impl.Addr) bool {
	rest := body[impl.HopsOf(body):]
	return len(rest) >= 2 && rest[0] == "not delivered:" && rest[1] == "<"+a.User+"@"+a.Domain+">" && impl.AddrOk(a)
}

func reportsSome(body []string) bool {
	rest := body[impl.HopsOf(body):]
	if len(rest) < 2 {
		return false
	}
	a, _ := impl.AddrGet(rest[1])
	return reports(body, a)
}

// isKeptBy is chapter 8's condition for an element of Given that is not lost, word by word.
func isKeptBy(h impl.Host, g impl.Loss) bool {
	for _, x := range h.Spool.Items {
		isFor := slices.ContainsFunc(x.To, func(r impl.Rcpt) bool { return r.Addr == g.Addr })
		if impl.MarkOf(x.Body) == g.Mark && (isFor && !reportsSome(x.Body) || reports(x.Body, g.Addr)) {
			return true
		}
	}
	for _, b := range h.Boxes {
		for _, x := range b.Mails {
			isIt := b.Addr == g.Addr && (x.From != impl.Addr{} || !reportsSome(x.Body))
			if impl.MarkOf(x.Body) == g.Mark && (isIt || reports(x.Body, g.Addr)) {
				return true
			}
		}
	}
	return slices.ContainsFunc(h.Lost, func(l impl.Loss) bool { return l.Mark == g.Mark })
}

func modelKept(w impl.World) int {
	lost := 0
	for _, g := range w.Given {
		if !slices.ContainsFunc(w.Hosts, func(h impl.Host) bool { return isKeptBy(h, g) }) {
			lost++
		}
	}
	return lost
}

// Promise 44.
func TestAcceptedMailIsNeverLost(t *testing.T) {
	given, lost := 0, 0
	eachPlay(280, false, func(list []impl.Conf, events []impl.Event) {
		w := impl.WorldPlay(list, events)
		if impl.WorldKept(w) != 0 {
			t.Errorf("WorldKept(%s) = %d", worldText(w), impl.WorldKept(w))
		}
		given += len(w.Given)
		lost += impl.LookMany(w)[3]
	})
	if given < 1000 || lost < 10 {
		t.Errorf("%d messages, of which %d got lost", given, lost)
	}
	for _, w := range badWorlds() {
		if impl.WorldKept(w) != -1 {
			t.Errorf("WorldKept(%s) = %d", worldText(w), impl.WorldKept(w))
		}
	}
}

// TestWorldKept is about one element of Given, which is lost if nothing else is there.
func TestWorldKept(t *testing.T) {
	a, b, c := user("a", "one.org"), user("b", "two.org"), user("c", "no.net")
	mark, other := []string{"Id: 1"}, []string{"Id: 2", "Id: 1"}
	ofB, ofC := []string{"not delivered:", "<b@two.org>", "Id: 1"}, []string{"not delivered:", "<c@no.net>", "Id: 1"}
	hops := slices.Repeat([]string{"Hop: one.org"}, 5)
	spooled := func(body []string, to ...impl.Addr) impl.Host {
		x := impl.Item{Id: 1, From: a, Body: body}
		for _, r := range to {
			x.To = append(x.To, rcpt(r, 0, 0))
		}
		return impl.Host{Spool: spoolOf(1, x)}
	}
	boxed := func(owner impl.Addr, from impl.Addr, body []string) impl.Host {
		return impl.Host{Boxes: []impl.Box{box(owner, got(a, "x"), got(from, body...))}}
	}
	cases := []struct {
		h    impl.Host
		lost int
	}{
		{impl.Host{}, 1}, {spooled(mark, b), 0}, {spooled(mark, a, c, b), 0}, {spooled(mark, a, c), 1}, {spooled(other, b), 1}, {spooled(nil, b), 1}, {spooled([]string{"Id: 10"}, b), 1},
		{spooled([]string{"Id: ", "x", "Id: 1"}, b), 0}, {spooled(append(hops, "Id: 1"), b), 0}, {spooled(ofB, a), 0}, {spooled(ofC, a), 1}, {spooled(ofC, a, b), 1}, {spooled(ofB, b), 0},
		{spooled(append(slices.Clone(hops), ofB...), a), 0}, {spooled(append(slices.Clone(hops), ofC...), b), 1}, {spooled(append([]string{"x"}, ofB...), a), 1},
		{spooled(append([]string{"x"}, ofC...), b), 0}, {spooled([]string{"not delivered:", "Hop: a", "<b@two.org>", "Id: 1"}, a), 1}, {spooled([]string{"not delivered:", "Id: 1"}, b), 0},
		{spooled([]string{"not delivered:", "<>", "Id: 1"}, b), 0}, {spooled([]string{"not delivered:", "<>", "Id: 1"}, a), 1}, {spooled([]string{"not delivered:", "<b@two.org> ", "Id: 1"}, a), 1},
		{spooled([]string{"Not delivered:", "<c@no.net>", "Id: 1"}, b), 0}, {spooled([]string{"not delivered: ", "<c@no.net>", "Id: 1"}, b), 0}, {spooled([]string{"Id: 1", "not delivered:", "<c@no.net>"}, b), 0},
		{spooled([]string{"Id: 1", "not delivered:"}, b), 0}, {spooled([]string{"not delivered:"}, b), 1}, {boxed(b, impl.Addr{}, []string{"Hop: a", "not delivered:"}), 1},
		{spooled([]string{"not delivered:", "<b@two.org>", "Id: 2"}, a), 1}, {spooled([]string{"not delivered:", "<b@two.org>"}, a), 1},
		{boxed(b, a, mark), 0}, {boxed(b, impl.Addr{}, mark), 0}, {boxed(a, a, mark), 1}, {boxed(b, a, other), 1}, {boxed(a, impl.Addr{}, ofB), 0}, {boxed(a, a, ofB), 0}, {boxed(a, impl.Addr{}, ofC), 1},
		{boxed(b, impl.Addr{}, ofC), 1}, {boxed(b, a, ofC), 0}, {boxed(b, impl.Addr{}, ofB), 0}, {boxed(b, impl.Addr{}, append(slices.Clone(hops), ofC...)), 1}, {boxed(b, impl.Addr{}, append([]string{"x"}, ofC...)), 0},
		{boxed(a, impl.Addr{}, append(slices.Clone(hops), ofB...)), 0}, {boxed(a, a, append([]string{"x"}, ofB...)), 1}, {boxed(b, impl.Addr{}, []string{"not delivered:", "<>", "Id: 1"}), 0},
		{impl.Host{Lost: []impl.Loss{{Mark: "Id: 1", Addr: b}}}, 0}, {impl.Host{Lost: []impl.Loss{{}, {Mark: "Id: 1"}}}, 0}, {impl.Host{Lost: []impl.Loss{{Mark: "Id: 1", Addr: a}}}, 0},
		{impl.Host{Lost: []impl.Loss{{Mark: "Id: 2", Addr: b}}}, 1}, {impl.Host{Lost: []impl.Loss{{Addr: b}}}, 1},
	}
	for i, x := range cases {
		for at := range 2 {
			w := impl.WorldNew(twoHosts())
			x.h.Conf = w.Hosts[at].Conf
			x.h.Conf.Own = []string{"one.org", "two.org"}
			w.Hosts[at] = x.h
			w.Given = []impl.Loss{{Mark: "Id: 1", Addr: b}}
			if kept := impl.WorldKept(w); kept != x.lost || modelKept(w) != kept {
				t.Errorf("case %d: WorldKept(%s) = %d", i, worldText(w), kept)
			}
			w.Given = append(slices.Repeat(w.Given, 3), impl.Loss{Mark: "Id: 7", Addr: b})
			if kept := impl.WorldKept(w); kept != 3*x.lost+1 {
				t.Errorf("case %d: WorldKept(%s) = %d", i, worldText(w), kept)
			}
		}
	}
	for _, w := range goodWorlds() {
		if kept := impl.WorldKept(w); kept != modelKept(w) {
			t.Errorf("WorldKept(%s) = %d", worldText(w), kept)
		}
	}
}

// TestForgettingIsSeen takes items, mailboxes and losses out of worlds, and looks whether WorldKept tells how much is missing.
func TestForgettingIsSeen(t *testing.T) {
	missing := 0
	eachPlay(70, false, func(list []impl.Conf, events []impl.Event) {
		w := impl.WorldPlay(list, events)
		for at := range w.Hosts {
			for what := range 3 {
				x := copyOfWorld(w)
				switch what {
				case 0:
					x.Hosts[at].Spool.Items = nil
				case 1:
					x.Hosts[at].Boxes = nil
				default:
					x.Hosts[at].Lost = nil
				}
				if kept := impl.WorldKept(x); kept != modelKept(x) {
					t.Errorf("WorldKept(%s) = %d, not %d", worldText(x), kept, modelKept(x))
				}
				missing += impl.WorldKept(x)
			}
		}
	})
	if missing == 0 {
		t.Error("nothing is missing")
	}
}

func hasRouteToItself(list []impl.Conf) bool {
	return slices.ContainsFunc(list, func(c impl.Conf) bool {
		return slices.ContainsFunc(c.Ways, func(w impl.Way) bool { return w.To == c.Name })
	})
}

// Promise 45.
func TestEveryMessageReachesAnEnd(t *testing.T) {
	eachPlay(140, false, func(list []impl.Conf, events []impl.Event) {
		w := impl.WorldPlay(list, events)
		calm := impl.WorldCalm(w, impl.CalmMax)
		if !impl.WorldOk(calm) || impl.WorldKept(calm) != 0 || !slices.Equal(calm.Given, w.Given) || calm.Marks != w.Marks || calm.Now != w.Now+impl.CalmMax*impl.TickMax {
			t.Errorf("%s becomes %s", worldText(w), worldText(calm))
		}
		if many := impl.LookMany(calm); !hasRouteToItself(list) && (many[0] != 0 || many[1] != 0) {
			t.Errorf("%s becomes %s with %v", worldText(w), worldText(calm), many)
		}
	})
}

// Promise 46.
func TestRoundsCompose(t *testing.T) {
	moved := 0
	check := func(w impl.World) {
		last, model := w, w
		for n := range 8 {
			x := impl.WorldCalm(w, n)
			if !sameWorld(x, last) || !sameWorld(x, model) {
				t.Errorf("WorldCalm(%s, %d) = %s, not %s", worldText(w), n, worldText(x), worldText(last))
			}
			last, model = impl.WorldCalm(last, 1), modelCalm(model, 1)
		}
		moved += impl.LookMany(last)[2] - impl.LookMany(w)[2]
	}
	for _, w := range busyWorlds() {
		check(w)
	}
	eachPlay(35, false, func(list []impl.Conf, events []impl.Event) { check(impl.WorldPlay(list, events)) })
	if moved == 0 {
		t.Error("nothing was delivered")
	}
}

func TestNumberOfRounds(t *testing.T) {
	w := worldWith(lone(), 7)
	checkWorld(t, impl.WorldCalm(w, 0), w)
	for rounds := 1; rounds <= impl.CalmMax; rounds++ {
		if x := impl.WorldCalm(w, rounds); x.Now != 7+rounds*impl.TickMax {
			t.Errorf("after %d rounds Now is %d", rounds, x.Now)
		}
	}
	for _, rounds := range []int{-1, impl.CalmMax + 1, 1 << 40, -1 << 63, 1<<63 - 1} {
		checkWorld(t, impl.WorldCalm(w, rounds), impl.World{})
	}
	// A tick that would go beyond TimeMax is not possible, and the rounds go on without it.
	w.Now = impl.TimeMax - 2*impl.TickMax - 1
	if x := impl.WorldCalm(w, impl.CalmMax); x.Now != impl.TimeMax-1 {
		t.Errorf("at the end of time Now is %d", x.Now)
	}
	for _, bad := range badWorlds() {
		for _, rounds := range []int{0, 1, impl.CalmMax} {
			checkWorld(t, impl.WorldCalm(bad, rounds), impl.World{})
		}
	}
}

// TestOneRound is about the order of a round: a host delivers, tries the hosts in order, and gives up what has none; a host
// behind it has what it was given in the same round.
func TestOneRound(t *testing.T) {
	a, s, z := user("a", "p"), user("s", "s"), user("z", "no.org")
	m := hi(a, s)
	w := after(t, impl.WorldNew(chain()), submit(0, impl.CutMax, m))
	w.Hosts[0].Spool.Items[0].To = append(w.Hosts[0].Spool.Items[0].To, rcpt(z, 0, 0))
	w = impl.WorldCalm(w, 1)
	body := []string{"Hop: s", "Hop: r", "Hop: q", "Hop: p", "Id: 1", "hi"}
	want := impl.WorldNew(chain())
	want.Now, want.Marks, want.Given = impl.TickMax, 1, []impl.Loss{{Mark: "Id: 1", Addr: s}}
	want.Hosts[0].Spool = spoolOf(1, impl.Item{Id: 1, From: a, To: []impl.Rcpt{rcpt(z, 1, 2)}, Body: body[3:]})
	want.Hosts[1].Spool, want.Hosts[2].Spool, want.Hosts[3].Spool = spoolOf(1), spoolOf(1), spoolOf(1)
	want.Hosts[3].Boxes = []impl.Box{box(s, got(a, body...))}
	checkWorld(t, w, want)
	// The other way, each round brings it to the next host.
	w = after(t, impl.WorldNew(chain()), submit(3, impl.CutMax, hi(s, a)))
	for round := range 4 {
		for at := range 4 {
			if items := len(w.Hosts[at].Spool.Items); items == 1 != (at == 3-round) {
				t.Errorf("before round %d: %s", round+1, worldText(w))
			}
		}
		w = impl.WorldCalm(w, 1)
	}
	if list := impl.LookBox(w, a); len(list) != 1 || w.Now != 4*impl.TickMax {
		t.Errorf("after four rounds: %s", worldText(w))
	}
}

// Promise 47.
func TestLostAndDuplicatedMailWasAccepted(t *testing.T) {
	twice := 0
	eachPlay(140, false, func(list []impl.Conf, events []impl.Event) {
		w := impl.WorldCalm(impl.WorldPlay(list, events), 4)
		x := copyOfWorld(w)
		x.Hosts[0].Boxes, x.Hosts[0].Lost = nil, nil
		for _, w := range []impl.World{w, x} {
			kept, more := impl.WorldKept(w), impl.LookTwice(w)
			if kept < 0 || more < 0 || kept+more > len(w.Given) {
				t.Errorf("WorldKept(%s) = %d, LookTwice = %d", worldText(w), kept, more)
			}
			twice += more
		}
	})
	if twice == 0 {
		t.Error("nothing was delivered twice")
	}
}

// Promise 48.
func TestNothingIsDeliveredTwiceWithoutLostResults(t *testing.T) {
	delivered := 0
	eachPlay(140, true, func(list []impl.Conf, events []impl.Event) {
		w := impl.WorldCalm(impl.WorldPlay(list, events), impl.CalmMax)
		if impl.LookTwice(w) != 0 || impl.WorldKept(w) != 0 {
			t.Errorf("%q: LookTwice = %d and WorldKept = %d of %s", list, impl.LookTwice(w), impl.WorldKept(w), worldText(w))
		}
		delivered += impl.LookMany(w)[2]
	})
	if delivered < 100 {
		t.Errorf("only %d messages were delivered", delivered)
	}
}

func hasDomainInCommon(w impl.World) bool {
	var all []string
	for _, h := range w.Hosts {
		for _, d := range h.Conf.Own {
			if slices.Contains(all, d) {
				return true
			}
		}
		all = append(all, h.Conf.Own...)
	}
	return false
}

// Promise 68.
func TestDeliveredMailRemains(t *testing.T) {
	kept := 0
	eachStep(140, func(w impl.World, e impl.Event, next impl.World, _ bool) {
		if hasDomainInCommon(w) {
			return
		}
		for _, x := range []impl.World{next, impl.WorldCalm(next, 1)} {
			for _, g := range w.Given {
				before, after := impl.LookBox(w, g.Addr), impl.LookBox(x, g.Addr)
				if len(after) < len(before) || !slices.EqualFunc(after[:len(before)], before, sameGot) {
					t.Errorf("%s in %s: %q becomes %q", eventText(e), worldText(w), before, after)
				}
				kept += len(before)
			}
		}
	})
	if kept == 0 {
		t.Error("the mailboxes are empty")
	}
}

// Promise 69.
func TestTimesAndNumbersOnlyGrow(t *testing.T) {
	lost := 0
	eachStep(140, func(w impl.World, e impl.Event, next impl.World, _ bool) {
		for _, x := range []impl.World{next, impl.WorldCalm(next, 2)} {
			if x.Now < w.Now || x.Marks < w.Marks || len(x.Hosts) != len(w.Hosts) {
				t.Errorf("%s in %s: %s", eventText(e), worldText(w), worldText(x))
			}
			for i, h := range w.Hosts {
				after := x.Hosts[i]
				if after.Spool.Last < h.Spool.Last || len(after.Lost) < len(h.Lost) || !slices.Equal(after.Lost[:len(h.Lost)], h.Lost) {
					t.Errorf("%s in %s: %s", eventText(e), worldText(w), worldText(x))
				}
				lost += len(h.Lost)
			}
		}
	})
	if lost == 0 {
		t.Error("nothing was lost")
	}
}

// Promise 70.
func TestSubmissionsAreRecordedOnce(t *testing.T) {
	eachPlay(280, false, func(list []impl.Conf, events []impl.Event) {
		w := impl.WorldPlay(list, events)
		seen, many := map[impl.Loss]bool{}, map[string]int{}
		for _, g := range w.Given {
			if many[g.Mark]++; seen[g] || many[g.Mark] > impl.ToMax {
				t.Errorf("%v is in Given twice, or too often: %v", g, w.Given)
			}
			seen[g] = true
		}
		if len(many) > w.Marks {
			t.Errorf("%d of %d submissions are in Given", len(many), w.Marks)
		}
	})
}

// Promise 71.
func TestCompleteSubmissionIsAccepted(t *testing.T) {
	check := func(w impl.World, at int, m impl.Mail, next impl.World) {
		t.Helper()
		var takes []impl.Loss
		for _, a := range m.To {
			if impl.ConfTakes(w.Hosts[at].Conf, a) {
				takes = append(takes, impl.Loss{Mark: fmt.Sprintf("Id: %d", w.Marks+1), Addr: a})
			}
		}
		grown := impl.SpoolMany(next.Hosts[at].Spool) - impl.SpoolMany(w.Hosts[at].Spool)
		if !slices.Equal(next.Given, slices.Concat(w.Given, takes)) || grown != len(takes) || next.Marks != w.Marks+1 {
			t.Errorf("%q in %s: %s", m, worldText(w), worldText(next))
		}
	}
	taken := 0
	eachStep(140, func(w impl.World, e impl.Event, next impl.World, ok bool) {
		if ok && e.Kind == impl.EventSubmit && e.Cut >= impl.CutMax {
			check(w, e.Host, e.Mail, next)
			taken += len(next.Given) - len(w.Given)
		}
	})
	eachGoodMail(func(m impl.Mail) {
		if len(m.Body) < impl.BodyMax-2 {
			w := impl.WorldNew([]impl.Conf{oneConf()})
			check(w, 0, m, after(t, w, submit(0, impl.CutMax, m)))
		}
	})
	if taken < 100 {
		t.Errorf("only %d recipients were accepted", taken)
	}
}

// owed is the number of recipients that are spooled or lost, and the number of messages in mailboxes.
func owed(w impl.World) (int, int) {
	many, mails := 0, 0
	for _, h := range w.Hosts {
		many += impl.SpoolMany(h.Spool) + len(h.Lost)
		mails += mailsIn(h)
	}
	return many, mails
}

// Promise 72.
func TestTransferPreservesRecipients(t *testing.T) {
	complete, grown := 0, 0
	check := func(w impl.World, e impl.Event, next impl.World, ok bool) {
		if !ok || e.Kind != impl.EventTry {
			return
		}
		before, mails := owed(w)
		after, same := owed(next)
		whole := e.Cut >= impl.CutMax && !e.Lose
		if after < before || whole && after != before || mails != same || !slices.Equal(next.Given, w.Given) {
			t.Errorf("%s in %s: %s", eventText(e), worldText(w), worldText(next))
		}
		if whole {
			complete++
		}
		grown += after - before
	}
	eachStep(280, check)
	for _, w := range busyWorlds() {
		eachEvent(func(e impl.Event) {
			next, ok := impl.WorldDo(w, e)
			check(w, e, next, ok)
		})
	}
	if complete < 100 || grown == 0 {
		t.Errorf("%d transfers were complete, %d recipients more", complete, grown)
	}
}

// Promise 73.
func TestUnreachableHostLosesNothing(t *testing.T) {
	done := 0
	check := func(w impl.World, e impl.Event, next impl.World, ok bool) {
		if !ok || e.Kind != impl.EventGone {
			return
		}
		before, mails := owed(w)
		after, same := owed(next)
		if after != before || mails != same || !slices.Equal(next.Given, w.Given) {
			t.Errorf("%s in %s: %s", eventText(e), worldText(w), worldText(next))
		}
		done++
	}
	eachStep(280, check)
	for _, w := range busyWorlds() {
		eachEvent(func(e impl.Event) {
			next, ok := impl.WorldDo(w, e)
			check(w, e, next, ok)
		})
	}
	if done < 100 {
		t.Errorf("only %d events", done)
	}
}
