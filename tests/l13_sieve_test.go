package tests

import (
	"fmt"
	"math/rand/v2"
	"slices"
	"strings"
	"testing"

	"loop.example/satchel/impl"
)

func keeping(ask int, text string) impl.Rule {
	return impl.Rule{Ask: ask, Text: text, Do: impl.DoKeep}
}

func dropping(ask int, text string) impl.Rule {
	return impl.Rule{Ask: ask, Text: text, Do: impl.DoDrop}
}

func sending(ask int, text string, to impl.Addr) impl.Rule {
	return impl.Rule{Ask: ask, Text: text, Do: impl.DoSend, To: to}
}

// mailFrom has the sender with a text such as a@x, and the null address for the empty text.
func mailFrom(from string, body ...string) impl.Mail {
	return impl.Mail{From: spelt(from), To: []impl.Addr{ann, bob}, Body: body}
}

func asks() []impl.Rule {
	return []impl.Rule{
		{Ask: impl.AskFrom, Text: "org"}, {Ask: impl.AskFrom, Text: "one.org"}, {Ask: impl.AskFrom, Text: "abcdefgh.abcdefgh.abcdefgh"}, {Ask: impl.AskFrom, Text: "x"},
		{Ask: impl.AskLine}, {Ask: impl.AskLine, Text: "x"}, {Ask: impl.AskLine, Text: "one.org"}, {Ask: impl.AskLine, Text: "org"}, {Ask: impl.AskLine, Text: " "}, {Ask: impl.AskLine, Text: lineOf(impl.LineMax)}, {Ask: impl.AskLine, Text: "~"},
		{Ask: impl.AskNull}, {Ask: impl.AskAll},
	}
}

func goodRules() []impl.Rule {
	var list []impl.Rule
	for _, r := range asks() {
		list = append(list, keeping(r.Ask, r.Text), dropping(r.Ask, r.Text), sending(r.Ask, r.Text, zoe))
	}
	return append(list, sending(impl.AskAll, "", longAddrs[0]), sending(impl.AskNull, "", ann))
}

func badRules() []impl.Rule {
	list := []impl.Rule{{}, {Do: impl.DoKeep}, {Ask: impl.AskAll}, {Ask: impl.AskNull}, {Ask: impl.AskLine, Text: "x"}, {Ask: impl.AskFrom, Text: "x"}}
	for _, action := range []impl.Rule{{Do: impl.DoKeep}, {Do: impl.DoDrop}, {Do: impl.DoSend, To: ann}} {
		ask := func(ask int, text string) {
			list = append(list, impl.Rule{Ask: ask, Text: text, Do: action.Do, To: action.To})
		}
		for _, d := range badDomains {
			ask(impl.AskFrom, d)
		}
		for _, body := range badBodies() {
			if len(body) == 1 {
				ask(impl.AskLine, body[0])
			}
		}
		for _, text := range []string{"x", " ", "org", "\x00", lineOf(100000)} {
			ask(impl.AskNull, text)
			ask(impl.AskAll, text)
		}
		for _, n := range []int{-1 << 63, -1, 0, 5, 6, 1<<63 - 1} {
			ask(n, "")
			ask(n, "x")
		}
	}
	for _, r := range asks() {
		for _, a := range append([]impl.Addr{ann, longAddrs[0]}, badAddrs...) {
			list = append(list, impl.Rule{Ask: r.Ask, Text: r.Text, Do: impl.DoKeep, To: a}, impl.Rule{Ask: r.Ask, Text: r.Text, Do: impl.DoDrop, To: a})
		}
		for _, a := range append([]impl.Addr{{}}, badAddrs...) {
			list = append(list, sending(r.Ask, r.Text, a))
		}
		for _, n := range []int{-1 << 63, -1, 0, 4, 5, 1<<63 - 1} {
			list = append(list, impl.Rule{Ask: r.Ask, Text: r.Text, Do: n}, impl.Rule{Ask: r.Ask, Text: r.Text, Do: n, To: ann})
		}
	}
	return list
}

// badSieves have a rule that is not valid, in every place, or too many rules.
func badSieves() [][]impl.Rule {
	list := [][]impl.Rule{slices.Repeat([]impl.Rule{keeping(impl.AskAll, "")}, impl.RulesMax+1), slices.Repeat([]impl.Rule{dropping(impl.AskLine, "x")}, impl.RulesMax+1), make([]impl.Rule, 100000), slices.Repeat([]impl.Rule{keeping(impl.AskAll, "")}, 100000)}
	for _, r := range badRules() {
		list = append(list, []impl.Rule{r}, []impl.Rule{r, keeping(impl.AskAll, "")}, []impl.Rule{dropping(impl.AskAll, ""), r}, []impl.Rule{keeping(impl.AskAll, ""), sending(impl.AskLine, "x", ann), r, keeping(impl.AskAll, ""), keeping(impl.AskNull, "")})
	}
	return list
}

func sieveMails() []impl.Mail {
	return []impl.Mail{
		mailFrom(""), mailFrom("", ""), mailFrom("", "x"), mailFrom("", "one.org"), mailFrom("a@org"), mailFrom("a@one.org", ""), mailFrom("a@x.one.org", "see one.org", "x"), mailFrom("a@x"), mailFrom("a@done.org", "~", ""),
		mailFrom("org@net", "the org"), mailFrom("a@abcdefgh.abcdefgh.abcdefgh", lineOf(impl.LineMax)), mailFrom("a@b", bodyOf(impl.BodyMax)...), {From: zoe, To: longAddrs, Body: everyAllowedByte()},
	}
}

func sieveText(list []impl.Rule) string {
	return fmt.Sprintf("%.300s", fmt.Sprintf("%+v", list))
}

func sameRules(a []impl.Rule, b []impl.Rule) bool {
	return slices.Equal(a, b)
}

// isAbout goes through a valid message in the words of the specification.
func isAbout(r impl.Rule, m impl.Mail) bool {
	switch r.Ask {
	case impl.AskFrom:
		return m.From != impl.Addr{} && strings.HasSuffix("."+m.From.Domain, "."+r.Text)
	case impl.AskLine:
		for _, line := range m.Body {
			for i := range len(line) - len(r.Text) + 1 {
				if line[i:i+len(r.Text)] == r.Text {
					return true
				}
			}
		}
		return false
	case impl.AskNull:
		return m.From == impl.Addr{}
	}
	return true
}

func modelSieve(list []impl.Rule, m impl.Mail) int {
	for i, r := range list {
		if isAbout(r, m) {
			return i
		}
	}
	return -1
}

func modelSieveDo(list []impl.Rule, m impl.Mail) (impl.Mail, int) {
	at := modelSieve(list, m)
	if at < 0 || list[at].Do == impl.DoKeep {
		return m, impl.DoKeep
	}
	if list[at].Do == impl.DoDrop {
		return impl.Mail{}, impl.DoDrop
	}
	return impl.Mail{From: m.From, To: []impl.Addr{list[at].To}, Body: m.Body}, impl.DoSend
}

// modelTidy looks behind each rule for those that are dropped because of it, and goes on with what is left.
func modelTidy(list []impl.Rule) []impl.Rule {
	rest := slices.Clone(list)
	for i := 0; i < len(rest); i++ {
		r := rest[i]
		more := slices.DeleteFunc(slices.Clone(rest[i+1:]), func(x impl.Rule) bool { return r.Ask == impl.AskAll || r.Ask == x.Ask && r.Text == x.Text })
		rest = append(slices.Clone(rest[:i+1]), more...)
	}
	last := len(rest)
	for last > 0 && rest[last-1].Do == impl.DoKeep {
		last--
	}
	return rest[:last]
}

// eachSieve calls f for all lists of at most three of some rules, and for longer ones.
func eachSieve(f func(list []impl.Rule)) {
	some := []impl.Rule{
		keeping(impl.AskFrom, "org"), dropping(impl.AskFrom, "org"), sending(impl.AskFrom, "one.org", zoe), keeping(impl.AskLine, "org"), dropping(impl.AskLine, "x"), sending(impl.AskLine, "", ann), keeping(impl.AskLine, ""),
		keeping(impl.AskNull, ""), sending(impl.AskNull, "", bob), keeping(impl.AskAll, ""), dropping(impl.AskAll, ""), sending(impl.AskAll, "", eve),
	}
	var grow func(list []impl.Rule)
	grow = func(list []impl.Rule) {
		f(list)
		for _, r := range some {
			if len(list) < 3 {
				grow(append(slices.Clone(list), r))
			}
		}
	}
	grow(nil)
	r := rand.New(rand.NewPCG(13, 67))
	for i := range 2000 {
		var list []impl.Rule
		for range 4 + i%2 {
			list = append(list, some[r.IntN(len(some))])
		}
		f(list)
	}
	f(slices.Repeat([]impl.Rule{keeping(impl.AskAll, "")}, impl.RulesMax))
}

func TestSieveOk(t *testing.T) {
	for _, r := range goodRules() {
		if !impl.SieveOk([]impl.Rule{r}) {
			t.Errorf("%+v is valid", r)
		}
	}
	eachSieve(func(list []impl.Rule) {
		if !impl.SieveOk(list) {
			t.Errorf("%s is valid", sieveText(list))
		}
	})
	for _, list := range badSieves() {
		if impl.SieveOk(list) {
			t.Errorf("%s is not valid", sieveText(list))
		}
	}
	for n := range impl.RulesMax + 3 {
		if impl.SieveOk(slices.Repeat([]impl.Rule{keeping(impl.AskNull, "")}, n)) != (n <= impl.RulesMax) {
			t.Errorf("%d rules", n)
		}
	}
}

func checkNoSieve(t *testing.T, list []impl.Rule, m impl.Mail) {
	t.Helper()
	if at := impl.SieveFor(list, m); at != -1 {
		t.Errorf("SieveFor(%s, %q) = %d", sieveText(list), m, at)
	}
	if got, do := impl.SieveDo(list, m); do != -1 || !isZeroMail(got) {
		t.Errorf("SieveDo(%s, %q) = %q, %d", sieveText(list), m, got, do)
	}
}

func TestInvalidSieves(t *testing.T) {
	for _, list := range badSieves() {
		for _, m := range sieveMails() {
			checkNoSieve(t, list, m)
		}
		checkNoSieve(t, list, impl.Mail{})
		if got := impl.SieveTidy(list); len(got) > 0 {
			t.Errorf("SieveTidy(%s) = %s", sieveText(list), sieveText(got))
		}
	}
}

func TestSievesOfInvalidMessages(t *testing.T) {
	eachBadMail(func(m impl.Mail) {
		checkNoSieve(t, nil, m)
		for _, r := range asks() {
			checkNoSieve(t, []impl.Rule{keeping(r.Ask, r.Text)}, m)
			checkNoSieve(t, []impl.Rule{dropping(r.Ask, r.Text), sending(impl.AskAll, "", zoe)}, m)
		}
	})
}

// conditionRow is a condition, messages for which it holds, and messages for which it does not hold.
type conditionRow struct {
	ask  int
	text string
	yes  []impl.Mail
	no   []impl.Mail
}

func conditionRows() []conditionRow {
	full := lineOf(impl.LineMax)
	return []conditionRow{
		{impl.AskFrom, "one.org", []impl.Mail{mailFrom("a@one.org"), mailFrom("a@x.one.org"), mailFrom("one@one.org", "x")}, []impl.Mail{mailFrom(""), mailFrom("", "one.org", "<a@one.org>"), mailFrom("a@org"), mailFrom("a@done.org"), mailFrom("a@one.org.x"), mailFrom("one@org"), mailFrom("a@one"), mailFrom("a@two.org", "one.org")}},
		{impl.AskFrom, "org", []impl.Mail{mailFrom("a@org"), mailFrom("a@one.org"), mailFrom("a@x.y.org")}, []impl.Mail{mailFrom(""), mailFrom("org@net"), mailFrom("a@org.net"), mailFrom("a@xorg"), mailFrom("a@or"), mailFrom("a@rg")}},
		{impl.AskFrom, "a.b.c", []impl.Mail{mailFrom("u@a.b.c")}, []impl.Mail{mailFrom(""), mailFrom("u@b.c"), mailFrom("u@c"), mailFrom("a@b.c"), mailFrom("u@xa.b.c")}},
		{impl.AskLine, "spam", []impl.Mail{mailFrom("", "spam"), mailFrom("a@b", "spam!"), mailFrom("a@b", "x", "no spam", "x"), mailFrom("a@b", "", "", "a spam line"), mailFrom("", "spaspam"), mailFrom("", "Hop: spam"), mailFrom("", "spam", "x"), mailFrom("", "x", "spam")}, []impl.Mail{mailFrom(""), mailFrom("spam@spam"), mailFrom("", ""), mailFrom("", "Spam"), mailFrom("", "SPAM"), mailFrom("", "sp am"), mailFrom("", "sp", "am"), mailFrom("", "spa", "m"), mailFrom("", "maps"), mailFrom("", "spa"), mailFrom("", "pam")}},
		{impl.AskLine, "", []impl.Mail{mailFrom("", ""), mailFrom("", "x"), mailFrom("a@b", "", ""), mailFrom("a@b", full), mailFrom("a@b", bodyOf(impl.BodyMax)...)}, []impl.Mail{mailFrom(""), mailFrom("a@b")}},
		{impl.AskLine, " ", []impl.Mail{mailFrom("", " "), mailFrom("", "a b"), mailFrom("", "a", "b ")}, []impl.Mail{mailFrom(""), mailFrom("", ""), mailFrom("", "a", "b")}},
		{impl.AskLine, full, []impl.Mail{mailFrom("", full), mailFrom("", "x", full)}, []impl.Mail{mailFrom(""), mailFrom("", full[1:]), mailFrom("", full[1:], full[1:]), mailFrom("", full[1:]+"y")}},
		{impl.AskLine, ".", []impl.Mail{mailFrom("", "."), mailFrom("", "..x"), mailFrom("", "a.")}, []impl.Mail{mailFrom(""), mailFrom("a@b.c", "a")}},
		{impl.AskLine, ".*", []impl.Mail{mailFrom("", "a.*")}, []impl.Mail{mailFrom("", "abc"), mailFrom("", ".a*")}},
		{impl.AskNull, "", []impl.Mail{mailFrom(""), mailFrom("", ""), mailFrom("", "<>")}, []impl.Mail{mailFrom("a@b"), mailFrom("a@b", ""), mailFrom("a@b", "from <>")}},
		{impl.AskAll, "", []impl.Mail{mailFrom(""), mailFrom("", ""), mailFrom("a@b"), mailFrom("a@b", "x"), {From: ann, To: longAddrs, Body: bodyOf(impl.BodyMax)}}, nil},
	}
}

func TestConditions(t *testing.T) {
	for _, row := range conditionRows() {
		for _, action := range []impl.Rule{keeping(row.ask, row.text), dropping(row.ask, row.text), sending(row.ask, row.text, zoe)} {
			for _, m := range row.yes {
				if at := impl.SieveFor([]impl.Rule{action}, m); at != 0 {
					t.Errorf("SieveFor(%+v, %q) = %d", action, m, at)
				}
			}
			for _, m := range row.no {
				if at := impl.SieveFor([]impl.Rule{action}, m); at != -1 {
					t.Errorf("SieveFor(%+v, %q) = %d", action, m, at)
				}
			}
		}
	}
}

func TestActions(t *testing.T) {
	for _, m := range sieveMails() {
		sent := impl.Mail{From: m.From, To: []impl.Addr{zoe}, Body: m.Body}
		cases := []struct {
			list []impl.Rule
			mail impl.Mail
			do   int
		}{
			{nil, m, impl.DoKeep}, {[]impl.Rule{}, m, impl.DoKeep}, {[]impl.Rule{keeping(impl.AskAll, "")}, m, impl.DoKeep}, {[]impl.Rule{dropping(impl.AskAll, "")}, impl.Mail{}, impl.DoDrop}, {[]impl.Rule{sending(impl.AskAll, "", zoe)}, sent, impl.DoSend},
			{[]impl.Rule{sending(impl.AskLine, "no such line", zoe)}, m, impl.DoKeep}, {[]impl.Rule{dropping(impl.AskFrom, "no.such"), dropping(impl.AskLine, "no such line")}, m, impl.DoKeep},
			{[]impl.Rule{keeping(impl.AskAll, ""), dropping(impl.AskAll, "")}, m, impl.DoKeep}, {[]impl.Rule{sending(impl.AskAll, "", zoe), dropping(impl.AskAll, "")}, sent, impl.DoSend},
			{[]impl.Rule{dropping(impl.AskLine, "no such line"), sending(impl.AskAll, "", zoe), sending(impl.AskAll, "", ann)}, sent, impl.DoSend},
		}
		for _, c := range cases {
			if got, do := impl.SieveDo(c.list, m); do != c.do || !sameMail(got, c.mail) {
				t.Errorf("SieveDo(%s, %q) = %q, %d", sieveText(c.list), m, got, do)
			}
		}
	}
	// A rule may send a message to one who has it, to its sender, and on behalf of nobody.
	m := impl.Mail{To: []impl.Addr{bob, ann}, Body: []string{"x"}}
	if got, do := impl.SieveDo([]impl.Rule{sending(impl.AskNull, "", ann)}, m); do != impl.DoSend || !sameMail(got, impl.Mail{To: []impl.Addr{ann}, Body: []string{"x"}}) {
		t.Errorf("SieveDo(%q) = %q, %d", m, got, do)
	}
}

// Promise 65.
func TestFirstMatchingRuleApplies(t *testing.T) {
	seen := map[int]int{}
	eachSieve(func(list []impl.Rule) {
		for _, m := range sieveMails() {
			at := impl.SieveFor(list, m)
			seen[at]++
			if at != modelSieve(list, m) {
				t.Fatalf("SieveFor(%s, %q) = %d", sieveText(list), m, at)
			}
			if at >= 0 && (impl.SieveFor(list[:at], m) != -1 || impl.SieveFor(list[at:at+1], m) != 0) {
				t.Errorf("%d is not the first rule for %q in %s", at, m, sieveText(list))
			}
			for i := range list {
				if at < 0 && impl.SieveFor(list[i:i+1], m) != -1 {
					t.Errorf("%d is a rule for %q in %s", i, m, sieveText(list))
				}
			}
		}
	})
	for at := -1; at < impl.RulesMax-1; at++ {
		if seen[at] < 50 {
			t.Errorf("SieveFor is %d just %d times", at, seen[at])
		}
	}
}

func TestLastOfAllRules(t *testing.T) {
	list := []impl.Rule{dropping(impl.AskNull, ""), dropping(impl.AskFrom, "org"), dropping(impl.AskLine, "x"), dropping(impl.AskFrom, "b"), sending(impl.AskLine, "", zoe)}
	cases := map[int]impl.Mail{0: mailFrom("", "x"), 1: mailFrom("a@org", "x"), 2: mailFrom("a@b", "x"), 3: mailFrom("a@b", "y"), 4: mailFrom("a@c", ""), -1: mailFrom("a@c")}
	for want, m := range cases {
		if at := impl.SieveFor(list, m); at != want {
			t.Errorf("SieveFor of %q = %d, not %d", m, at, want)
		}
	}
}

// Promise 66.
func TestRulesChangeRecipientsOnly(t *testing.T) {
	seen := map[int]int{}
	eachSieve(func(list []impl.Rule) {
		for _, m := range sieveMails() {
			got, do := impl.SieveDo(list, m)
			seen[do]++
			if want, action := modelSieveDo(list, m); do != action || !sameMail(got, want) {
				t.Fatalf("SieveDo(%s, %q) = %q, %d", sieveText(list), m, got, do)
			}
			at := impl.SieveFor(list, m)
			if at < 0 && do != impl.DoKeep || at >= 0 && do != list[at].Do {
				t.Errorf("SieveDo(%s, %q) = %q, %d", sieveText(list), m, got, do)
			}
			if do != impl.DoDrop && (got.From != m.From || !slices.Equal(got.Body, m.Body) || !impl.MailOk(got)) {
				t.Errorf("SieveDo(%s, %q) = %q, %d", sieveText(list), m, got, do)
			}
		}
	})
	for _, do := range []int{impl.DoKeep, impl.DoDrop, impl.DoSend} {
		if seen[do] < 1000 {
			t.Errorf("SieveDo is %d just %d times", do, seen[do])
		}
	}
}

func TestSieveTidy(t *testing.T) {
	k, d, s := keeping, dropping, func(ask int, text string) impl.Rule { return sending(ask, text, zoe) }
	const from, line, null, all = impl.AskFrom, impl.AskLine, impl.AskNull, impl.AskAll
	cases := []struct{ list, few []impl.Rule }{
		{nil, nil}, {[]impl.Rule{}, nil}, {[]impl.Rule{d(line, "x")}, []impl.Rule{d(line, "x")}},
		// Rules behind one with AskAll.
		{[]impl.Rule{d(all, ""), d(line, "x")}, []impl.Rule{d(all, "")}}, {[]impl.Rule{s(all, ""), d(all, ""), k(null, ""), d(from, "x"), k(line, "")}, []impl.Rule{s(all, "")}},
		{[]impl.Rule{d(line, "x"), d(all, ""), d(line, "y")}, []impl.Rule{d(line, "x"), d(all, "")}}, {[]impl.Rule{k(all, ""), d(line, "x"), d(all, "")}, nil}, {[]impl.Rule{d(null, ""), k(all, ""), d(from, "x")}, []impl.Rule{d(null, "")}},
		// Rules with the same Ask and Text that do otherwise, next to each other and apart.
		{[]impl.Rule{d(line, "x"), s(line, "x")}, []impl.Rule{d(line, "x")}}, {[]impl.Rule{k(line, "x"), d(line, "x")}, nil}, {[]impl.Rule{d(line, "x"), k(line, "x")}, []impl.Rule{d(line, "x")}}, {[]impl.Rule{sending(line, "x", ann), s(line, "x")}, []impl.Rule{sending(line, "x", ann)}},
		{[]impl.Rule{d(from, "x"), s(null, ""), s(from, "x"), k(null, "")}, []impl.Rule{d(from, "x"), s(null, "")}}, {[]impl.Rule{k(line, "x"), d(line, "y"), d(line, "x"), d(line, "y"), d(line, "z")}, []impl.Rule{k(line, "x"), d(line, "y"), d(line, "z")}},
		{[]impl.Rule{d(null, ""), s(null, "")}, []impl.Rule{d(null, "")}}, {[]impl.Rule{k(null, ""), d(null, "")}, nil}, {[]impl.Rule{d(line, ""), s(line, "")}, []impl.Rule{d(line, "")}},
		// Rules that are alike, but not the same in Ask and Text.
		{[]impl.Rule{d(from, "x"), d(line, "x")}, []impl.Rule{d(from, "x"), d(line, "x")}}, {[]impl.Rule{d(line, "x"), d(from, "x")}, []impl.Rule{d(line, "x"), d(from, "x")}}, {[]impl.Rule{d(line, "x"), d(line, "X"), d(line, "xx")}, []impl.Rule{d(line, "x"), d(line, "X"), d(line, "xx")}},
		{[]impl.Rule{d(from, "org"), d(from, "one.org")}, []impl.Rule{d(from, "org"), d(from, "one.org")}}, {[]impl.Rule{d(line, ""), d(line, "x"), d(null, ""), d(all, "")}, []impl.Rule{d(line, ""), d(line, "x"), d(null, ""), d(all, "")}},
		{[]impl.Rule{d(null, ""), d(line, ""), s(line, "x"), d(all, "")}, []impl.Rule{d(null, ""), d(line, ""), s(line, "x"), d(all, "")}},
		// Rules that keep: at the end, ahead of others, and alone.
		{[]impl.Rule{k(all, "")}, nil}, {[]impl.Rule{k(line, "x")}, nil}, {[]impl.Rule{k(line, "x"), k(line, "y"), k(from, "x"), k(null, ""), k(all, "")}, nil}, {[]impl.Rule{d(line, "x"), k(line, "y"), k(null, "")}, []impl.Rule{d(line, "x")}},
		{[]impl.Rule{k(line, "x"), d(line, "y")}, []impl.Rule{k(line, "x"), d(line, "y")}}, {[]impl.Rule{k(line, "x"), d(line, "y"), k(line, "z")}, []impl.Rule{k(line, "x"), d(line, "y")}}, {[]impl.Rule{k(line, "x"), k(line, "y"), s(null, "")}, []impl.Rule{k(line, "x"), k(line, "y"), s(null, "")}},
		{[]impl.Rule{d(line, "x"), k(line, "y"), s(line, "x"), s(line, "y")}, []impl.Rule{d(line, "x")}}, {[]impl.Rule{k(line, "x"), k(all, ""), d(line, "y")}, nil},
		{[]impl.Rule{d(line, "1"), d(line, "2"), d(line, "3"), d(line, "4"), d(line, "5")}, []impl.Rule{d(line, "1"), d(line, "2"), d(line, "3"), d(line, "4"), d(line, "5")}},
	}
	for _, c := range cases {
		if got := impl.SieveTidy(c.list); !sameRules(got, c.few) {
			t.Errorf("SieveTidy(%s) = %s", sieveText(c.list), sieveText(got))
		}
	}
}

// Promise 67.
func TestRemovingRedundantRulesPreservesTheEffect(t *testing.T) {
	shorter := 0
	eachSieve(func(list []impl.Rule) {
		few := impl.SieveTidy(list)
		if !sameRules(few, modelTidy(list)) || !impl.SieveOk(few) || len(few) > len(list) {
			t.Fatalf("SieveTidy(%s) = %s", sieveText(list), sieveText(few))
		}
		if again := impl.SieveTidy(few); !sameRules(again, few) {
			t.Errorf("SieveTidy(%s) = %s", sieveText(few), sieveText(again))
		}
		if len(few) < len(list) {
			shorter++
		}
		for _, m := range sieveMails() {
			got, do := impl.SieveDo(few, m)
			if want, action := impl.SieveDo(list, m); do != action || !sameMail(got, want) {
				t.Errorf("SieveDo(%s, %q) = %q, %d, and not for %s", sieveText(few), m, got, do, sieveText(list))
			}
		}
	})
	if shorter < 1000 {
		t.Errorf("only %d lists get shorter", shorter)
	}
}
