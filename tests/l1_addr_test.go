package tests

import (
	"regexp"
	"strings"
	"testing"

	"loop.example/satchel/impl"
)

const domainPattern = `[a-z0-9]{1,8}(\.[a-z0-9]{1,8}){0,2}`

var (
	domainShape = regexp.MustCompile(`\A` + domainPattern + `\z`)
	addrShape   = regexp.MustCompile(`\A<([a-z0-9]{1,8}@` + domainPattern + `)?>\z`)
)

var goodDomains = []string{
	"a", "0", "org", "one.org", "a.b.c", "7.8.9", "a.a.a", "12345678", "abcdefgh.z",
	"abcdefgh.abcdefgh.abcdefgh",
}

var badDomains = []string{
	"", ".", "..", ".a", "a.", "a..b", ".a.b", "a.b.", "a.b.c.d", "a.b.c.", "a.b.c.d.e",
	"abcdefghi", "a.abcdefghi", "abcdefghi.a", "A", "one.Org", "a-b", "a_b", "a b", " a", "a ", "a\n",
	"a\x00", "\xff", "é", "a@b", "<a>", strings.Repeat("a.", 1000), strings.Repeat("a", 100000),
}

var goodAddrs = []impl.Addr{
	{User: "a", Domain: "b"}, {User: "ann7", Domain: "one.org"}, {User: "0", Domain: "a.b.c"},
	{User: "abcdefgh", Domain: "abcdefgh.abcdefgh.abcdefgh"},
}

var badAddrs = []impl.Addr{
	{User: "a"}, {Domain: "b"}, {User: "a.b", Domain: "c"}, {User: "abcdefghi", Domain: "b"},
	{User: "a", Domain: "b."}, {User: "a", Domain: "a.b.c.d"}, {User: "a", Domain: "abcdefghi"},
	{User: "A", Domain: "b"}, {User: "a", Domain: "B"}, {User: "a@b", Domain: "c"}, {User: "a", Domain: "b@c"},
	{User: "<a", Domain: "b"}, {User: "a", Domain: "b>"}, {Domain: "."}, {User: " ", Domain: " "},
	{User: "a\x00", Domain: "b"}, {User: "a", Domain: "\xff"},
}

var badAddrTexts = []string{
	"", "<", ">", "><", "<<>>", "<> ", " <>", "<>\r\n", "< >", "<@>", "a@b", "<a>", "<a@b", "a@b>", "<a@b>>", "<<a@b>",
	"<a@b@c>", "<@b>", "<a@>", "<A@b>", "<a@B>", "<a@b.>", "<a@.b>", "<a@a.b.c.d>", "<abcdefghi@b>", "<a@abcdefghi>",
	"<a.b@c>", "<a@b> ", " <a@b>", "<a @b>", "<a@ b>", "<a@b>\n", "<a@b\x00>", "<a\xff@b>", "<" + strings.Repeat("a", 5000) + "@b>",
}

func TestDomainOk(t *testing.T) {
	for _, d := range goodDomains {
		if !impl.DomainOk(d) {
			t.Errorf("%q is a domain", d)
		}
	}
	for _, d := range badDomains {
		if impl.DomainOk(d) {
			t.Errorf("%q is not a domain", d)
		}
	}
}

func TestDomainOkOfEveryShortText(t *testing.T) {
	eachText([]string{"a", "z", "0", ".", "A", "@"}, 7, func(s string) {
		if impl.DomainOk(s) != domainShape.MatchString(s) {
			t.Errorf("DomainOk(%q) = %v", s, impl.DomainOk(s))
		}
	})
}

func TestLabelsHaveLowercaseLettersAndDigits(t *testing.T) {
	for b := range 256 {
		s := string([]byte{byte(b)})
		want := strings.Contains("abcdefghijklmnopqrstuvwxyz0123456789", s)
		if impl.DomainOk(s) != want || impl.DomainOk("one."+s) != want || impl.AddrOk(impl.Addr{User: s, Domain: "b"}) != want {
			t.Errorf("the byte %d as a label", b)
		}
	}
}

func TestLimitsOfDomains(t *testing.T) {
	for n := range impl.WordMax + 3 {
		want := n >= 1 && n <= impl.WordMax
		word := strings.Repeat("a", n)
		if impl.DomainOk(word) != want || impl.DomainOk("a."+word+".a") != want {
			t.Errorf("a label of %d bytes in a domain", n)
		}
		if impl.AddrOk(impl.Addr{User: word, Domain: "b"}) != want {
			t.Errorf("a user of %d bytes", n)
		}
	}
	for n := 1; n < impl.LabelsMax+3; n++ {
		if impl.DomainOk(strings.Repeat("a.", n-1)+"a") != (n <= impl.LabelsMax) {
			t.Errorf("a domain of %d labels", n)
		}
	}
}

func TestAddrOk(t *testing.T) {
	for _, a := range goodAddrs {
		if !impl.AddrOk(a) {
			t.Errorf("%v is an address", a)
		}
	}
	for _, a := range badAddrs {
		if impl.AddrOk(a) {
			t.Errorf("%v is not an address", a)
		}
	}
	if impl.AddrOk(impl.Addr{}) {
		t.Error("the null address is not an address")
	}
}

// Promise 1.
func TestDomainIsWithinItsSuffixes(t *testing.T) {
	for _, d := range goodDomains {
		if !impl.DomainIn(d, d) {
			t.Errorf("%q is within itself", d)
		}
		for _, e := range append(goodDomains, "b.c", "c") {
			long := "x." + d
			if impl.DomainIn(d, e) && len(e) > len(d) {
				t.Errorf("%q is longer than %q", e, d)
			}
			if impl.DomainIn(d, e) && impl.DomainIn(long, e) != impl.DomainOk(long) {
				t.Errorf("DomainIn(%q, %q) = %v", long, e, impl.DomainIn(long, e))
			}
		}
	}
	suffixes := []string{"a.b.c", "b.c", "c"}
	for _, e := range suffixes {
		if !impl.DomainIn("a.b.c", e) {
			t.Errorf("a.b.c is within %q", e)
		}
	}
}

func TestDomainInOfOthers(t *testing.T) {
	no := [][2]string{
		{"org", "one.org"}, {"done.org", "one.org"}, {"one.org", "rg"}, {"one.org", "one"}, {"one.org", "e.org"},
		{"a.b.c", "a.b"}, {"a.b.c", "a.c"}, {"a.b", "b.a"}, {"a", "b"}, {"aa", "a"}, {"a.b", "a"},
		{"x.a.b.c", "a.b.c"}, {"a.b.c.d", "d"}, {"", ""}, {"", "a"}, {"a", ""}, {".a", "a"}, {"a.", ""}, {"a.b", ".b"},
		{"A.b", "b"}, {"a.B", "B"}, {"a.b\n", "b\n"}, {"abcdefghi.b", "b"}, {"b.abcdefghi", "abcdefghi"},
	}
	for _, p := range no {
		if impl.DomainIn(p[0], p[1]) {
			t.Errorf("%q is not within %q", p[0], p[1])
		}
	}
	for _, d := range badDomains {
		if impl.DomainIn(d, d) || impl.DomainIn(d, "a") || impl.DomainIn("a", d) {
			t.Errorf("%q is not a domain", d)
		}
	}
}

func TestDomainInOfEveryPairOfShortTexts(t *testing.T) {
	var texts []string
	eachText([]string{"a", "b", "."}, 5, func(s string) { texts = append(texts, s) })
	for _, s := range texts {
		for _, e := range texts {
			want := domainShape.MatchString(s) && domainShape.MatchString(e) && strings.HasSuffix("."+s, "."+e)
			if impl.DomainIn(s, e) != want {
				t.Errorf("DomainIn(%q, %q) = %v", s, e, !want)
			}
		}
	}
}

// Promise 2.
func TestAddrGetInvertsAddrPut(t *testing.T) {
	for _, a := range append(goodAddrs, impl.Addr{}) {
		got, ok := impl.AddrGet(impl.AddrPut(a))
		if !ok || got != a {
			t.Errorf("AddrGet(AddrPut(%v)) = %v, %v", a, got, ok)
		}
	}
	for _, a := range badAddrs {
		if s := impl.AddrPut(a); s != "" {
			t.Errorf("AddrPut(%v) = %q", a, s)
		}
	}
}

func TestAddrPut(t *testing.T) {
	want := map[string]impl.Addr{
		"<>":             {},
		"<a@b>":          {User: "a", Domain: "b"},
		"<ann7@one.org>": {User: "ann7", Domain: "one.org"},
	}
	for s, a := range want {
		if impl.AddrPut(a) != s {
			t.Errorf("AddrPut(%v) = %q", a, impl.AddrPut(a))
		}
		if got, ok := impl.AddrGet(s); !ok || got != a {
			t.Errorf("AddrGet(%q) = %v, %v", s, got, ok)
		}
	}
}

// Promise 3.
func TestAddrTextsAreCanonical(t *testing.T) {
	check := func(s string) {
		a, ok := impl.AddrGet(s)
		if ok != addrShape.MatchString(s) {
			t.Errorf("AddrGet(%q) = %v, %v", s, a, ok)
		}
		if ok && impl.AddrPut(a) != s || !ok && a != (impl.Addr{}) {
			t.Errorf("AddrGet(%q) = %v, %v", s, a, ok)
		}
	}
	eachText([]string{"<", ">", "@", ".", "a", "A"}, 7, check)
	for _, a := range goodAddrs {
		eachEdit(impl.AddrPut(a), "<>@.aZ \x00\xff", check)
	}
}

func TestAddrGetOfOtherTexts(t *testing.T) {
	for _, s := range badAddrTexts {
		if a, ok := impl.AddrGet(s); ok || a != (impl.Addr{}) {
			t.Errorf("AddrGet(%q) = %v, %v", s, a, ok)
		}
	}
}
