package tests

import (
	"slices"
	"testing"

	"loop.example/satchel/impl"
)

// fullWorld has items, mailboxes and losses at each of two hosts, which have a local domain in common.
func fullWorld() impl.World {
	w := impl.WorldNew(alike())
	a, b, q := user("a", "one.org"), user("b", "two.org"), user("q", "x.com")
	w.Hosts[0].Spool, w.Hosts[1].Spool = oneSpool(), manyItems(3, 1)
	w.Hosts[0].Boxes = []impl.Box{box(a, got(b, "Id: 1"), got(b, "Id: 1"), got(b, "Id: 2")), box(user("e", "one.org")), box(q, got(a, "Id: 3"))}
	w.Hosts[1].Boxes = []impl.Box{box(b, got(impl.Addr{}, "x")), box(q, got(a, "Id: 3"), got(impl.Addr{}, "not delivered:", "<a@one.org>", "Id: 4"))}
	w.Hosts[0].Lost, w.Hosts[1].Lost = []impl.Loss{{}}, []impl.Loss{{Mark: "Id: 1", Addr: a}, {Mark: "Id: 1", Addr: a}}
	return w
}

func TestLookMany(t *testing.T) {
	if many := impl.LookMany(fullWorld()); !slices.Equal(many, []int{7, 11, 7, 3}) {
		t.Errorf("LookMany = %v", many)
	}
	w := fullWorld()
	w.Hosts[0].Spool.Items, w.Hosts[1].Boxes, w.Hosts[0].Lost = nil, nil, nil
	if many := impl.LookMany(w); !slices.Equal(many, []int{3, 3, 4, 2}) {
		t.Errorf("LookMany = %v", many)
	}
	for _, w := range badWorlds() {
		if many := impl.LookMany(w); len(many) != 0 {
			t.Errorf("LookMany(%s) = %v", worldText(w), many)
		}
	}
}

// eachWorld calls f for valid worlds, also such as are the ends of plays.
func eachWorld(f func(w impl.World)) {
	for _, w := range append(goodWorlds(), fullWorld()) {
		f(w)
	}
	eachPlay(70, false, func(list []impl.Conf, events []impl.Event) {
		f(impl.WorldPlay(list, events))
		f(impl.WorldCalm(impl.WorldPlay(list, events), 3))
	})
}

// Promise 49.
func TestCountsAddUpOverHosts(t *testing.T) {
	eachWorld(func(w impl.World) {
		want := make([]int, 4)
		for _, h := range w.Hosts {
			want[0] += len(h.Spool.Items)
			want[1] += impl.SpoolMany(h.Spool)
			want[2] += mailsIn(h)
			want[3] += len(h.Lost)
		}
		if many := impl.LookMany(w); !slices.Equal(many, want) || many[1] < many[0] {
			t.Errorf("LookMany(%s) = %v, not %v", worldText(w), many, want)
		}
	})
}

func TestLookBox(t *testing.T) {
	a, b, q := user("a", "one.org"), user("b", "two.org"), user("q", "x.com")
	cases := []struct {
		a    impl.Addr
		want []impl.Got
	}{
		{a, []impl.Got{got(b, "Id: 1"), got(b, "Id: 1"), got(b, "Id: 2")}}, {b, []impl.Got{got(impl.Addr{}, "x")}},
		{q, []impl.Got{got(a, "Id: 3"), got(a, "Id: 3"), got(impl.Addr{}, "not delivered:", "<a@one.org>", "Id: 4")}},
		{user("e", "one.org"), nil}, {user("a", "two.org"), nil}, {user("b", "one.org"), nil}, {zoe, nil}, {impl.Addr{}, nil}, {user("one.org", "a"), nil}, {user("", "one.org"), nil},
	}
	for _, c := range cases {
		if list := impl.LookBox(fullWorld(), c.a); !slices.EqualFunc(list, c.want, sameGot) {
			t.Errorf("LookBox(%v) = %q, not %q", c.a, list, c.want)
		}
	}
	for _, x := range badAddrs {
		if list := impl.LookBox(fullWorld(), x); len(list) != 0 {
			t.Errorf("LookBox(%v) = %q", x, list)
		}
	}
	for _, w := range badWorlds() {
		for _, x := range []impl.Addr{ann, user("u", "a")} {
			if list := impl.LookBox(w, x); len(list) != 0 {
				t.Errorf("LookBox(%s, %v) = %q", worldText(w), x, list)
			}
		}
	}
}

// Promise 50.
func TestMailboxIsPartOfAllMailboxes(t *testing.T) {
	found := 0
	eachWorld(func(w impl.World) {
		all := map[impl.Addr][]impl.Got{}
		for _, h := range w.Hosts {
			for _, b := range h.Boxes {
				all[b.Addr] = append(all[b.Addr], b.Mails...)
			}
		}
		sum := 0
		for a, want := range all {
			list := impl.LookBox(w, a)
			if !slices.EqualFunc(list, want, sameGot) {
				t.Errorf("LookBox(%s, %v) = %q, not %q", worldText(w), a, list, want)
			}
			sum += len(list)
		}
		if sum != impl.LookMany(w)[2] {
			t.Errorf("the mailboxes of %s have %d messages", worldText(w), sum)
		}
		found += sum
	})
	if found == 0 {
		t.Error("the mailboxes are empty")
	}
}

// modelTwice is chapter 9's LookTwice for a valid world, word by word.
func modelTwice(w impl.World) int {
	twice := 0
	for _, g := range w.Given {
		copies := 0
		for _, x := range impl.LookBox(w, g.Addr) {
			if impl.MarkOf(x.Body) == g.Mark && (x.From != impl.Addr{} || !reportsSome(x.Body)) {
				copies++
			}
		}
		if copies > 1 {
			twice++
		}
	}
	return twice
}

func TestLookTwice(t *testing.T) {
	null, a, q := impl.Addr{}, user("a", "one.org"), user("q", "x.com")
	report, hop := []string{"not delivered:", "<z@no.net>", "Id: 1"}, []string{"Hop: a", "not delivered:", "<z@no.net>", "Id: 1"}
	copies := func(mails ...impl.Got) []impl.Got { return mails }
	cases := []struct {
		first  []impl.Got
		second []impl.Got
		twice  int
	}{
		{nil, nil, 0}, {copies(got(a, "Id: 1")), nil, 0}, {nil, copies(got(a, "Id: 1")), 0}, {copies(got(a, "Id: 1"), got(a, "Id: 1")), nil, 1}, {copies(got(a, "Id: 1")), copies(got(a, "Id: 1")), 1},
		{nil, copies(got(a, "Id: 1"), got(q, "Id: 1"), got(a, "Id: 1", "x")), 1}, {copies(got(a, "Id: 1"), got(a, "Id: 2")), nil, 0}, {copies(got(a, "x", "Id: 1"), got(a, "Hop: a", "Id: 1")), nil, 1},
		{copies(got(null, "Id: 1")), copies(got(null, "Id: 1")), 1}, {copies(got(a, "Id: 1")), copies(got(null, "Id: 1")), 1}, {copies(got(a, "Id: 1"), got(null, report...)), nil, 0},
		{copies(got(null, report...), got(null, report...)), nil, 0}, {copies(got(a, "Id: 1"), got(null, hop...)), nil, 0}, {copies(got(a, "Id: 1"), got(a, report...)), nil, 1},
		{copies(got(a, hop...)), copies(got(a, report...)), 1}, {copies(got(a, "Id: 1"), got(null, append([]string{"x"}, report...)...)), nil, 1}, {copies(got(a, "Id: 1"), got(a), got(a, "x")), nil, 0},
		{copies(got(a, "Id: 1"), got(null, "not delivered:", "Id: 1")), nil, 1}, {copies(got(a, "Id: 1"), got(null, "not delivered:", "<>", "Id: 1")), nil, 1},
		{copies(got(a, "Id: 1"), got(a, "Id: 2", "Id: 1")), nil, 0}, {copies(got(a, "Id: 1"), got(a, "Id: 10")), nil, 0},
	}
	for _, c := range cases {
		w := impl.WorldNew(alike())
		w.Hosts[0].Boxes, w.Hosts[1].Boxes = []impl.Box{box(a, got(a, "Id: 1")), box(q, c.first...)}, []impl.Box{box(q, c.second...)}
		w.Given = []impl.Loss{{Mark: "Id: 1", Addr: a}, {Mark: "Id: 1", Addr: q}, {Mark: "Id: 9", Addr: q}, {Mark: "Id: 1", Addr: zoe}}
		if twice := impl.LookTwice(w); twice != c.twice || modelTwice(w) != twice {
			t.Errorf("LookTwice of %q and %q = %d", c.first, c.second, twice)
		}
		w.Given = append(w.Given, w.Given...)
		if twice := impl.LookTwice(w); twice != 2*c.twice {
			t.Errorf("LookTwice of %q and %q = %d, given twice", c.first, c.second, twice)
		}
	}
	eachWorld(func(w impl.World) {
		if twice := impl.LookTwice(w); twice != modelTwice(w) {
			t.Errorf("LookTwice(%s) = %d, not %d", worldText(w), twice, modelTwice(w))
		}
	})
	for _, w := range badWorlds() {
		if twice := impl.LookTwice(w); twice != -1 {
			t.Errorf("LookTwice(%s) = %d", worldText(w), twice)
		}
	}
}

func TestLookWay(t *testing.T) {
	cases := []struct {
		list   []impl.Conf
		name   string
		domain string
		want   []string
	}{
		{twoHosts(), "one.org", "one.org", []string{"one.org"}}, {twoHosts(), "one.org", "two.org", []string{"one.org", "two.org"}}, {twoHosts(), "two.org", "x.one.org", []string{"two.org", "one.org"}},
		{twoHosts(), "one.org", "x.com", []string{"one.org", "two.org", "one.org", "two.org"}}, {twoHosts(), "one.org", "z.net", []string{"one.org"}}, {twoHosts(), "two.org", "z.net", []string{"two.org"}},
		{twoHosts(), "one.org", "no.org", []string{"one.org"}}, {refusing(), "one.org", "no.org", []string{"one.org", "two.org"}}, {selfish(), "one.org", "x.com", slices.Repeat([]string{"one.org"}, impl.HopMax)},
		{selfish(), "two.org", "x.com", []string{"two.org"}}, {chain(), "p", "s", []string{"p", "q", "r", "s"}}, {chain(), "s", "p", []string{"s", "r", "q", "p"}}, {chain(), "q", "x.com", []string{"q", "r", "s", "p"}},
		{ring(), "b.org", "org", []string{"b.org", "c.org", "a.org", "b.org"}}, {ring(), "c.org", "b.org", []string{"c.org", "a.org", "b.org"}}, {lone(), "one.org", "net", []string{"one.org"}},
		{twoHosts(), "", "two.org", nil}, {twoHosts(), "org", "two.org", nil}, {twoHosts(), "gone.net", "two.org", nil}, {twoHosts(), "One.org", "two.org", nil}, {twoHosts(), "two.org ", "two.org", nil},
	}
	for _, c := range cases {
		if list := impl.LookWay(c.list, c.name, c.domain); !slices.Equal(list, c.want) {
			t.Errorf("LookWay(%q, %q, %q) = %q, not %q", c.list, c.name, c.domain, list, c.want)
		}
	}
	for _, domain := range badDomains {
		for _, list := range allLists() {
			if names := impl.LookWay(list, list[0].Name, domain); len(names) != 0 {
				t.Errorf("LookWay to %.60q = %q", domain, names)
			}
		}
	}
	for _, list := range badLists() {
		for _, name := range []string{"a", "first", ""} {
			if names := impl.LookWay(list, name, "a"); len(names) != 0 {
				t.Errorf("LookWay(%.200q, %q) = %q", list, name, names)
			}
		}
	}
}

// eachWay calls f for the routes of all lists of hosts.
func eachWay(f func(list []impl.Conf, name string, domain string, route []string)) {
	for _, list := range append(allLists(), []impl.Conf{oneConf(), own("hub", way("org", "three"), way("c", "one.org")), own("three")}) {
		for _, domain := range append(domainsOf(list), "com", "x.org", "b.c", "a.b.c", "x.two.org") {
			for _, c := range list {
				f(list, c.Name, domain, impl.LookWay(list, c.Name, domain))
			}
		}
	}
}

func confNamed(list []impl.Conf, name string) (impl.Conf, bool) {
	at := slices.IndexFunc(list, func(c impl.Conf) bool { return c.Name == name })
	if at < 0 {
		return impl.Conf{}, false
	}
	return list[at], true
}

// Promise 51.
func TestRoutesFollowTheConfiguration(t *testing.T) {
	longest := 0
	eachWay(func(list []impl.Conf, name string, domain string, route []string) {
		var want []string
		for c, found := confNamed(list, name); found && len(want) < impl.HopMax; c, found = confNamed(list, impl.WayOf(c, domain)) {
			want = append(want, c.Name)
		}
		if !slices.Equal(route, want) || len(route) == 0 || route[0] != name {
			t.Errorf("LookWay(%q, %q, %q) = %q, not %q", list, name, domain, route, want)
		}
		longest = max(longest, len(route))
	})
	if longest != impl.HopMax {
		t.Errorf("the longest route has %d hosts", longest)
	}
}

// Promise 74.
func TestEveryHostOnTheRouteAccepts(t *testing.T) {
	passed := 0
	eachWay(func(list []impl.Conf, name string, domain string, route []string) {
		for i := range len(route) - 1 {
			if c, _ := confNamed(list, route[i]); !impl.ConfTakes(c, user("u", domain)) {
				t.Errorf("LookWay(%q, %q, %q) = %q, and %s does not take it", list, name, domain, route, c.Name)
			}
			passed++
		}
	})
	if passed == 0 {
		t.Error("no route has two hosts")
	}
}
