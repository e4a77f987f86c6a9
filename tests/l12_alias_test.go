package tests

import (
	"fmt"
	"math/rand/v2"
	"slices"
	"strings"
	"testing"

	"loop.example/satchel/impl"
)

// spelt is the address with a text such as a@x, and the null address for the empty text.
func spelt(text string) impl.Addr {
	name, domain, _ := strings.Cut(text, "@")
	return impl.Addr{User: name, Domain: domain}
}

func addrs(text string) []impl.Addr {
	var list []impl.Addr
	for _, word := range strings.Fields(text) {
		list = append(list, spelt(word))
	}
	return list
}

// aliases are written as From and a colon, and behind it what each stands for.
func aliases(texts ...string) []impl.Alias {
	var list []impl.Alias
	for _, text := range texts {
		from, to, _ := strings.Cut(text, ":")
		list = append(list, impl.Alias{From: spelt(from), To: addrs(to)})
	}
	return list
}

func sameAlias(a impl.Alias, b impl.Alias) bool {
	return a.From == b.From && slices.Equal(a.To, b.To)
}

func sameAliases(a []impl.Alias, b []impl.Alias) bool {
	return slices.EqualFunc(a, b, sameAlias)
}

func aliasText(list []impl.Alias) string {
	var text strings.Builder
	for _, x := range list {
		fmt.Fprintf(&text, "%q:%s; ", x.From, addrsText(x.To))
	}
	return text.String()
}

func addrsText(list []impl.Addr) string {
	var text strings.Builder
	for _, a := range list {
		fmt.Fprintf(&text, " %q", a)
	}
	return text.String()
}

// inOrder is the different addresses of a list, by Domain and then by User; no label has a byte below the blank.
func inOrder(list []impl.Addr) []impl.Addr {
	var texts []string
	for _, a := range list {
		texts = append(texts, a.Domain+" "+a.User)
	}
	slices.Sort(texts)
	var sorted []impl.Addr
	for _, text := range slices.Compact(texts) {
		domain, name, _ := strings.Cut(text, " ")
		sorted = append(sorted, user(name, domain))
	}
	return sorted
}

func toOf(list []impl.Alias, from impl.Addr) []impl.Addr {
	for _, x := range list {
		if x.From == from {
			return x.To
		}
	}
	return nil
}

func fromsOf(list []impl.Alias) []impl.Addr {
	var froms []impl.Addr
	for _, x := range list {
		froms = append(froms, x.From)
	}
	return froms
}

func isFromOf(list []impl.Alias) func(a impl.Addr) bool {
	return func(a impl.Addr) bool { return toOf(list, a) != nil }
}

// ledTo is all to which some addresses lead, found by adding what they stand for as often as there could be news.
func ledTo(list []impl.Alias, from ...impl.Addr) []impl.Addr {
	all := slices.Clone(from)
	for range impl.AliasMax + 1 {
		for _, a := range slices.Clone(all) {
			all = append(all, toOf(list, a)...)
		}
		all = inOrder(all)
	}
	return all
}

func modelFor(list []impl.Alias, from ...impl.Addr) []impl.Addr {
	return slices.DeleteFunc(ledTo(list, from...), isFromOf(list))
}

// Domains and users have another order here than the texts of the addresses.
var aliasAddrs = addrs("a@z b@y c@x d@x.y a@x b@x x@a zz@a 0@a a@x.a b@z 1@y aa@x z@0 y@0 a@y.z")

// eachAliases calls f for valid lists of aliases of an address book in which there are many loops, the same ones each time.
func eachAliases(many int, f func(list []impl.Alias)) {
	r := rand.New(rand.NewPCG(12, 6))
	for range many {
		book := aliasAddrs[:3+r.IntN(len(aliasAddrs)-2)]
		var list []impl.Alias
		for _, at := range r.Perm(len(book))[:min(len(book), r.IntN(impl.AliasMax+1))] {
			x := impl.Alias{From: book[at]}
			for range 1 + r.IntN(impl.ToMax) {
				x.To = append(x.To, book[r.IntN(len(book))])
			}
			list = append(list, x)
		}
		f(list)
	}
}

func goodAliases() [][]impl.Alias {
	return [][]impl.Alias{
		nil, {}, aliases("a@x:b@x"), aliases("a@x:a@x"), aliases("a@x:b@x b@x"), aliases("a@x:b@x a@x b@x a@x"), aliases("a@x:a@y", "a@y:a@x", "b@x:a@x"),
		aliases("a@x:1@x 2@x 3@x 4@x"), aliases("a@x:1@x", "b@x:1@x", "c@x:1@x", "d@x:1@x", "e@x:1@x", "f@x:1@x"), aliases("a@x:longuser@longlabl.longlabl.longlabl"),
	}
}

func badAliases() [][]impl.Alias {
	list := [][]impl.Alias{
		aliases("a@x:"), aliases("a@x:b@x", "b@x:"), aliases("a@x:1@x 2@x 3@x 4@x 5@x"), aliases("a@x:b@x b@x b@x b@x b@x"), aliases("b@x:a@x", "a@x:1@x 2@x 3@x 4@x 5@x"),
		aliases("a@x:b@x", "a@x:b@x"), aliases("a@x:b@x", "a@x:c@x"), aliases("a@x:b@x", "c@x:b@x", "a@x:a@x"), aliases(":b@x"), aliases("a@x:b@x", ":c@x"), {{}}, {{From: ann}}, {{To: []impl.Addr{ann}}},
		{{From: ann, To: []impl.Addr{{}}}}, {{From: ann, To: []impl.Addr{bob, {}}}}, {{From: ann, To: []impl.Addr{{}, bob}}}, {{From: bob, To: []impl.Addr{ann}}, {From: ann, To: []impl.Addr{bob, bob, bob, {}}}},
		aliases("a@x:1@x", "b@x:1@x", "c@x:1@x", "d@x:1@x", "e@x:1@x", "f@x:1@x", "g@x:1@x"), make([]impl.Alias, 10000), slices.Repeat(aliases("a@x:b@x"), 1000), {{From: ann, To: slices.Repeat([]impl.Addr{bob}, 100000)}},
	}
	for _, a := range badAddrs {
		list = append(list, []impl.Alias{{From: a, To: []impl.Addr{bob}}}, []impl.Alias{{From: ann, To: []impl.Addr{bob, a}}}, []impl.Alias{{From: ann, To: []impl.Addr{a, bob}}})
	}
	return list
}

func TestAliasOk(t *testing.T) {
	for _, list := range goodAliases() {
		if !impl.AliasOk(list) {
			t.Errorf("%s is valid", aliasText(list))
		}
	}
	eachAliases(300, func(list []impl.Alias) {
		if !impl.AliasOk(list) {
			t.Errorf("%s is valid", aliasText(list))
		}
	})
	for _, list := range badAliases() {
		if impl.AliasOk(list) {
			t.Errorf("%.300s is not valid", aliasText(list))
		}
	}
}

func TestLimitsOfAliases(t *testing.T) {
	for n := range impl.AliasMax + 3 {
		var list []impl.Alias
		for i := range n {
			list = append(list, impl.Alias{From: user(fmt.Sprint("u", i), "x"), To: []impl.Addr{ann}})
		}
		if impl.AliasOk(list) != (n <= impl.AliasMax) {
			t.Errorf("%d aliases", n)
		}
	}
	for n := range impl.ToMax + 3 {
		x := impl.Alias{From: ann, To: slices.Repeat([]impl.Addr{bob}, n)}
		if impl.AliasOk([]impl.Alias{x}) != (n >= 1 && n <= impl.ToMax) {
			t.Errorf("an alias of %d", n)
		}
	}
}

func TestInvalidAliases(t *testing.T) {
	for _, list := range badAliases() {
		for _, a := range []impl.Addr{ann, bob, zoe, spelt("a@x"), {}} {
			if got := impl.AliasFor(list, a); len(got) > 0 {
				t.Errorf("AliasFor(%.300s, %v) =%s", aliasText(list), a, addrsText(got))
			}
		}
		if got := impl.AliasRound(list); len(got) > 0 {
			t.Errorf("AliasRound(%.300s) =%s", aliasText(list), addrsText(got))
		}
		if got := impl.AliasFlat(list); len(got) > 0 {
			t.Errorf("AliasFlat(%.300s) = %s", aliasText(list), aliasText(got))
		}
		if got, ok := impl.AliasMail(list, letter()); ok || !isZeroMail(got) {
			t.Errorf("AliasMail(%.300s) = %q, %v", aliasText(list), got, ok)
		}
	}
}

// aliasRow is a list of aliases, what the first of them stands for, the loops, and the list without chains.
type aliasRow struct {
	list  []impl.Alias
	ends  string
	round string
	flat  []impl.Alias
}

func aliasRows() []aliasRow {
	fan := []string{"a@x:b@x c@x", "b@x:1@x 2@x", "c@x:3@x 4@x"}
	chain := []string{"a@x:b@x", "b@x:c@x", "c@x:d@x", "d@x:e@x", "e@x:f@x"}
	ring := aliases(append(slices.Clone(chain), "f@x:a@x")...)
	return []aliasRow{
		{aliases("a@x:b@x"), "b@x", "", aliases("a@x:b@x")},
		{aliases("a@x:b@x b@x"), "b@x", "", aliases("a@x:b@x")},
		{aliases("a@x:d@x c@x b@x"), "b@x c@x d@x", "", aliases("a@x:b@x c@x d@x")},
		{aliases("a@x:a@z b@y c@x d@x.y"), "c@x d@x.y b@y a@z", "", aliases("a@x:c@x d@x.y b@y a@z")},
		{aliases("a@x:b@x1 b@x.a b@x b@w"), "b@w b@x b@x.a b@x1", "", aliases("a@x:b@w b@x b@x.a b@x1")},
		{aliases("a@x:bb@x b@x ba@x 9@x"), "9@x b@x ba@x bb@x", "", aliases("a@x:9@x b@x ba@x bb@x")},
		// An address that stands for itself: alone, beside others, and through others.
		{aliases("a@x:a@x"), "", "a@x", nil},
		{aliases("a@x:a@x a@x"), "", "a@x", nil},
		{aliases("a@x:a@x b@x"), "b@x", "a@x", aliases("a@x:b@x")},
		{aliases("a@x:b@x a@x"), "b@x", "a@x", aliases("a@x:b@x")},
		{aliases("a@x:b@x", "b@x:a@x"), "", "a@x b@x", nil},
		{aliases("b@x:a@x", "a@x:b@x"), "", "a@x b@x", nil},
		{aliases("a@x:b@x", "b@x:a@x c@x"), "c@x", "a@x b@x", aliases("a@x:c@x", "b@x:c@x")},
		{aliases("b@x:a@x c@x", "a@x:b@x"), "c@x", "a@x b@x", aliases("b@x:c@x", "a@x:c@x")},
		{aliases("a@y:b@x", "b@x:c@z", "c@z:a@y"), "", "b@x a@y c@z", nil},
		{ring, "", "a@x b@x c@x d@x e@x f@x", nil},
		// A chain into a loop is not part of it.
		{aliases("a@x:b@x", "b@x:b@x"), "", "b@x", nil},
		{aliases("a@x:b@x", "b@x:b@x c@x"), "c@x", "b@x", aliases("a@x:c@x", "b@x:c@x")},
		{aliases("a@x:b@x", "b@x:c@x", "c@x:b@x d@x"), "d@x", "b@x c@x", aliases("a@x:d@x", "b@x:d@x", "c@x:d@x")},
		{aliases("a@x:b@x d@x", "b@x:c@x", "c@x:b@x"), "d@x", "b@x c@x", aliases("a@x:d@x")},
		{aliases("a@x:b@x c@x", "b@x:a@x", "c@x:c@x"), "", "a@x b@x c@x", nil},
		// Chains, and the order of the list.
		{aliases(chain...), "f@x", "", aliases("a@x:f@x", "b@x:f@x", "c@x:f@x", "d@x:f@x", "e@x:f@x")},
		{aliases("e@x:f@x", "c@x:d@x", "a@x:b@x", "d@x:e@x", "b@x:c@x"), "f@x", "", aliases("e@x:f@x", "c@x:f@x", "a@x:f@x", "d@x:f@x", "b@x:f@x")},
		{aliases("a@x:b@x c@x", "b@x:d@x", "c@x:d@x"), "d@x", "", aliases("a@x:d@x", "b@x:d@x", "c@x:d@x")},
		{aliases("a@x:z@x b@x", "b@x:y@x c@x", "c@x:x@x d@x"), "d@x x@x y@x z@x", "", aliases("a@x:d@x x@x y@x z@x", "b@x:d@x x@x y@x", "c@x:d@x x@x")},
		// ToMax addresses, and one more.
		{aliases(fan...), "1@x 2@x 3@x 4@x", "", aliases("a@x:1@x 2@x 3@x 4@x", "b@x:1@x 2@x", "c@x:3@x 4@x")},
		{aliases("a@x:b@x c@x 5@x", fan[1], fan[2]), "1@x 2@x 3@x 4@x 5@x", "", aliases(fan[1:]...)},
		{aliases("a@x:b@x c@x", "b@x:1@x 2@x 3@x", "c@x:3@x 4@x"), "1@x 2@x 3@x 4@x", "", aliases("a@x:1@x 2@x 3@x 4@x", "b@x:1@x 2@x 3@x", "c@x:3@x 4@x")},
		{aliases("a@x:b@x c@x d@x e@x", "b@x:1@x 2@x 3@x 4@x", "c@x:5@x 6@x 7@x 8@x", "d@x:1@y 2@y 3@y 4@y", "e@x:5@y 6@y 7@y 8@y"), "1@x 2@x 3@x 4@x 5@x 6@x 7@x 8@x 1@y 2@y 3@y 4@y 5@y 6@y 7@y 8@y", "", aliases("b@x:1@x 2@x 3@x 4@x", "c@x:5@x 6@x 7@x 8@x", "d@x:1@y 2@y 3@y 4@y", "e@x:5@y 6@y 7@y 8@y")},
	}
}

func TestAliasesOfEachShape(t *testing.T) {
	for _, r := range aliasRows() {
		if got := impl.AliasFor(r.list, r.list[0].From); !slices.Equal(got, addrs(r.ends)) {
			t.Errorf("%s the first stands for%s", aliasText(r.list), addrsText(got))
		}
		if got := impl.AliasRound(r.list); !slices.Equal(got, addrs(r.round)) {
			t.Errorf("AliasRound(%s) =%s", aliasText(r.list), addrsText(got))
		}
		if got := impl.AliasFlat(r.list); !sameAliases(got, r.flat) {
			t.Errorf("AliasFlat(%s) = %s", aliasText(r.list), aliasText(got))
		}
		if got := impl.AliasFor(r.list, zoe); !slices.Equal(got, []impl.Addr{zoe}) {
			t.Errorf("AliasFor(%s, zoe) =%s", aliasText(r.list), addrsText(got))
		}
	}
}

func TestNoAliases(t *testing.T) {
	for _, list := range [][]impl.Alias{nil, {}} {
		if got := impl.AliasFor(list, ann); !slices.Equal(got, []impl.Addr{ann}) {
			t.Errorf("ann stands for%s", addrsText(got))
		}
		if len(impl.AliasRound(list)) > 0 || len(impl.AliasFlat(list)) > 0 {
			t.Errorf("%s, %s", addrsText(impl.AliasRound(list)), aliasText(impl.AliasFlat(list)))
		}
		m := impl.Mail{From: eve, To: addrs("a@z b@y c@x d@x.y"), Body: []string{"x"}}
		if got, ok := impl.AliasMail(list, m); !ok || !slices.Equal(got.To, addrs("c@x d@x.y b@y a@z")) {
			t.Errorf("AliasMail without aliases = %q, %v", got, ok)
		}
	}
}

func TestAliasForOfNoAddress(t *testing.T) {
	for _, list := range goodAliases() {
		for _, a := range append([]impl.Addr{{}}, badAddrs...) {
			if got := impl.AliasFor(list, a); len(got) > 0 {
				t.Errorf("AliasFor(%s, %q) =%s", aliasText(list), a, addrsText(got))
			}
		}
	}
}

// Promise 60.
func TestAliasesAreExpandedCompletely(t *testing.T) {
	eachAliases(3000, func(list []impl.Alias) {
		for _, a := range append(aliasAddrs, zoe) {
			got := impl.AliasFor(list, a)
			if !slices.Equal(got, modelFor(list, a)) {
				t.Errorf("AliasFor(%s, %v) =%s", aliasText(list), a, addrsText(got))
			}
			if slices.ContainsFunc(got, isFromOf(list)) || !slices.Equal(got, inOrder(got)) {
				t.Errorf("AliasFor(%s, %v) =%s", aliasText(list), a, addrsText(got))
			}
			if !isFromOf(list)(a) && !slices.Equal(got, []impl.Addr{a}) {
				t.Errorf("AliasFor(%s, %v) =%s", aliasText(list), a, addrsText(got))
			}
		}
	})
}

// Promise 61.
func TestExpansionIsTheUnionOfItsParts(t *testing.T) {
	eachAliases(3000, func(list []impl.Alias) {
		for _, x := range list {
			var union []impl.Addr
			for _, a := range x.To {
				union = append(union, impl.AliasFor(list, a)...)
			}
			if got := impl.AliasFor(list, x.From); !slices.Equal(got, inOrder(union)) {
				t.Errorf("AliasFor(%s, %v) =%s", aliasText(list), x.From, addrsText(got))
			}
		}
	})
}

func modelFlat(list []impl.Alias) []impl.Alias {
	var flat []impl.Alias
	for _, x := range list {
		if to := modelFor(list, x.From); len(to) > 0 && len(to) <= impl.ToMax {
			flat = append(flat, impl.Alias{From: x.From, To: to})
		}
	}
	return flat
}

// Promise 62.
func TestFlatteningPreservesExpansion(t *testing.T) {
	shorter, empty := 0, 0
	eachAliases(3000, func(list []impl.Alias) {
		flat := impl.AliasFlat(list)
		if !sameAliases(flat, modelFlat(list)) || !impl.AliasOk(flat) {
			t.Errorf("AliasFlat(%s) = %s", aliasText(list), aliasText(flat))
		}
		if loops := impl.AliasRound(flat); len(loops) > 0 {
			t.Errorf("AliasFlat(%s) has the loops%s", aliasText(list), addrsText(loops))
		}
		if again := impl.AliasFlat(flat); !sameAliases(again, flat) {
			t.Errorf("AliasFlat(%s) = %s", aliasText(flat), aliasText(again))
		}
		for _, x := range flat {
			for _, a := range append([]impl.Addr{x.From}, x.To...) {
				if got, want := impl.AliasFor(flat, a), impl.AliasFor(list, a); !slices.Equal(got, want) {
					t.Errorf("%v stands for%s in %s, not%s", a, addrsText(got), aliasText(flat), addrsText(want))
				}
			}
		}
		for _, x := range list {
			switch n := len(impl.AliasFor(list, x.From)); {
			case n == 0:
				empty++
			case n > impl.ToMax:
				shorter++
			}
		}
	})
	if shorter < 100 || empty < 100 {
		t.Errorf("%d aliases stand for too much, and %d for nothing", shorter, empty)
	}
}

func modelRound(list []impl.Alias) []impl.Addr {
	var round []impl.Addr
	for _, x := range list {
		if slices.Contains(ledTo(list, x.To...), x.From) {
			round = append(round, x.From)
		}
	}
	return inOrder(round)
}

// Promise 63.
func TestLoopsCanBeRemoved(t *testing.T) {
	some, all := 0, 0
	eachAliases(3000, func(list []impl.Alias) {
		round := impl.AliasRound(list)
		if !slices.Equal(round, modelRound(list)) {
			t.Errorf("AliasRound(%s) =%s", aliasText(list), addrsText(round))
		}
		rest := slices.DeleteFunc(slices.Clone(list), func(x impl.Alias) bool { return slices.Contains(round, x.From) })
		if more := impl.AliasRound(rest); len(more) > 0 {
			t.Errorf("AliasRound(%s) =%s", aliasText(rest), addrsText(more))
		}
		if len(round) > 0 && len(rest) > 0 {
			some++
		}
		if len(round) > 0 && len(rest) == 0 {
			all++
		}
	})
	if some < 100 || all < 100 {
		t.Errorf("some aliases are loops in %d lists, and all in %d", some, all)
	}
}

func TestAliasMail(t *testing.T) {
	list := aliases("a@x:d@x b@x", "b@x:a@x c@x", "d@x:d@x", "e@x:z@a y@b c@x", "f@x:e@x 1@x")
	cases := []struct {
		to   string
		want string
	}{
		{"zoe@no.net", "zoe@no.net"}, {"z@y a@y", "a@y z@y"}, {"a@x", "c@x"}, {"b@x", "c@x"}, {"z@x b@x", "c@x z@x"}, {"a@x z@x d@x", "c@x z@x"},
		// Recipients that stand for the same address.
		{"a@x b@x", "c@x"}, {"c@x a@x", "c@x"}, {"b@x c@x a@x d@x", "c@x"}, {"d@x c@x", "c@x"}, {"e@x a@x b@x", "z@a y@b c@x"}, {"e@x c@x z@a y@b", "z@a y@b c@x"},
		{"d@x", ""}, {"e@x", "z@a y@b c@x"}, {"e@x 1@x", "z@a y@b 1@x c@x"}, {"f@x", "z@a y@b 1@x c@x"}, {"f@x e@x a@x d@x", "z@a y@b 1@x c@x"}, {"f@x 2@x", ""}, {"e@x 1@x 2@x", ""}, {"2@x 1@x 3@x a@x", "1@x 2@x 3@x c@x"}, {"3@x 1@x 2@x e@x", ""},
	}
	for _, c := range cases {
		for _, from := range goodFroms {
			for _, body := range goodBodies() {
				m := impl.Mail{From: from, To: addrs(c.to), Body: body}
				want := impl.Mail{}
				if c.want != "" {
					want = impl.Mail{From: from, To: addrs(c.want), Body: body}
				}
				if got, ok := impl.AliasMail(list, m); ok != (c.want != "") || !sameMail(got, want) {
					t.Errorf("AliasMail of %q = %q, %v", m, got, ok)
				}
			}
		}
	}
}

func TestAliasMailOfInvalidMessages(t *testing.T) {
	eachBadMail(func(m impl.Mail) {
		for _, list := range goodAliases() {
			if got, ok := impl.AliasMail(list, m); ok || !isZeroMail(got) {
				t.Errorf("AliasMail(%s, %q) = %q, %v", aliasText(list), m, got, ok)
			}
		}
	})
}

// TestSenderIsNoRecipient has aliases for the sender, whom they do not concern.
func TestSenderIsNoRecipient(t *testing.T) {
	m := impl.Mail{From: spelt("a@x"), To: addrs("b@x"), Body: []string{"a@x"}}
	got, ok := impl.AliasMail(aliases("a@x:c@x", "b@x:d@x"), m)
	if want := (impl.Mail{From: m.From, To: addrs("d@x"), Body: m.Body}); !ok || !sameMail(got, want) {
		t.Errorf("AliasMail(%q) = %q, %v", m, got, ok)
	}
}

// Promise 64.
func TestExpansionKeepsTheMessage(t *testing.T) {
	r := rand.New(rand.NewPCG(64, 12))
	many := map[int]int{}
	eachAliases(3000, func(list []impl.Alias) {
		for _, book := range [][]impl.Addr{aliasAddrs, aliasAddrs, fromsOf(list), fromsOf(list)} {
			if len(book) == 0 {
				continue
			}
			m := impl.Mail{From: goodFroms[r.IntN(len(goodFroms))], Body: goodBodies()[r.IntN(len(goodBodies()))]}
			for _, at := range r.Perm(len(book))[:1+r.IntN(min(impl.ToMax, len(book)))] {
				m.To = append(m.To, book[at])
			}
			union := modelFor(list, m.To...)
			may := len(union) > 0 && len(union) <= impl.ToMax
			got, ok := impl.AliasMail(list, m)
			many[len(union)]++
			if ok != may || !ok && !isZeroMail(got) {
				t.Errorf("AliasMail(%s, %q) = %q, %v", aliasText(list), m, got, ok)
			}
			if !ok {
				continue
			}
			if want := (impl.Mail{From: m.From, To: union, Body: m.Body}); !sameMail(got, want) || !impl.MailOk(got) || slices.ContainsFunc(got.To, isFromOf(list)) {
				t.Errorf("AliasMail(%s, %q) = %q", aliasText(list), m, got)
			}
			if again, twice := impl.AliasMail(list, got); !twice || !sameMail(again, got) {
				t.Errorf("AliasMail(%s, %q) = %q, %v", aliasText(list), got, again, twice)
			}
		}
	})
	for n := range impl.ToMax + 2 {
		if many[n] < 50 {
			t.Errorf("only %d messages are for %d", many[n], n)
		}
	}
}
