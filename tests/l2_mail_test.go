package tests

import (
	"regexp"
	"slices"
	"strings"
	"testing"

	"loop.example/satchel/impl"
)

// A line in its transparent form is empty, begins with two dots, or begins with another byte.
var dotShape = regexp.MustCompile(`\A((\.\.[ -~]*|[ -\-/-~][ -~]*|)\r\n)*\.\r\n\z`)

var (
	ann = impl.Addr{User: "ann", Domain: "one.org"}
	bob = impl.Addr{User: "bob", Domain: "two.org"}
	cat = impl.Addr{User: "bob", Domain: "one.org"}
	dan = impl.Addr{User: "ann", Domain: "two.org"}
	eve = impl.Addr{User: "e", Domain: "a.b.c"}
)

var longAddrs = []impl.Addr{
	{User: "abcdefgh", Domain: "abcdefgh.abcdefgh.abcdefg0"}, {User: "abcdefgh", Domain: "abcdefgh.abcdefgh.abcdefg1"},
	{User: "abcdefgh", Domain: "abcdefgh.abcdefgh.abcdefg2"}, {User: "abcdefgh", Domain: "abcdefgh.abcdefgh.abcdefg3"},
}

func dottedLine() string {
	return "." + lineOf(impl.LineMax-1)
}

func everyAllowedByte() []string {
	var list []string
	for first := 32; first <= 126; first += impl.LineMax {
		line := ""
		for b := first; b <= 126 && len(line) < impl.LineMax; b++ {
			line += string(rune(b))
		}
		list = append(list, line)
	}
	return list
}

func goodBodies() [][]string {
	return [][]string{
		nil, {}, {""}, {"", ""}, {"."}, {".."}, {"..."}, {".", "."}, {".a"}, {"a"}, {"a", ".", "", "..b"}, {"a."}, {" .", ". "},
		{"Hop: a"}, {"from <>"}, {"to <a@b>", "", "x"}, {lineOf(impl.LineMax)}, {dottedLine()}, everyAllowedByte(),
		bodyOf(impl.BodyMax), slices.Repeat([]string{""}, impl.BodyMax), slices.Repeat([]string{dottedLine()}, impl.BodyMax),
	}
}

func badBodies() [][]string {
	list := [][]string{
		{lineOf(impl.LineMax + 1)}, {"." + lineOf(impl.LineMax)}, {"a", lineOf(10000)}, bodyOf(impl.BodyMax + 1), bodyOf(1000),
		slices.Repeat([]string{""}, impl.BodyMax+1), {"\r"}, {"\n"}, {"\r\n"}, {"a\r\nb"}, {"a", "b\r"}, {"a\nb"}, {"a", "", "\x00"},
	}
	for b := range 256 {
		if b < 32 || b > 126 {
			list = append(list, []string{string([]byte{byte(b)})}, []string{"ok", "a" + string([]byte{byte(b)})})
		}
	}
	return list
}

var (
	goodFroms = []impl.Addr{{}, ann, longAddrs[0]}
	goodTos   = [][]impl.Addr{{ann}, {bob, ann}, {ann, bob, cat, dan}, {eve, cat, ann}, longAddrs}
	badTos    = [][]impl.Addr{
		nil, {}, {{}}, {ann, {}}, {{}, ann}, {ann, ann}, {ann, bob, ann}, {bob, ann, cat, ann}, {ann, bob, cat, dan, eve},
		{{User: "a"}}, {ann, {Domain: "b"}}, {ann, bob, {User: "A", Domain: "b"}}, {{User: "a", Domain: "a.b.c.d"}},
		slices.Repeat([]impl.Addr{ann}, 1000),
	}
)

func eachGoodMail(f func(m impl.Mail)) {
	for _, from := range goodFroms {
		for _, to := range goodTos {
			for _, body := range goodBodies() {
				f(impl.Mail{From: from, To: to, Body: body})
			}
		}
	}
}

func eachBadMail(f func(m impl.Mail)) {
	f(impl.Mail{})
	for _, from := range badAddrs {
		f(impl.Mail{From: from, To: []impl.Addr{ann}, Body: []string{"x"}})
	}
	for _, from := range goodFroms {
		for _, to := range badTos {
			f(impl.Mail{From: from, To: to, Body: []string{"x"}})
		}
		for _, body := range badBodies() {
			f(impl.Mail{From: from, To: []impl.Addr{ann}, Body: body})
		}
	}
}

func TestMailOk(t *testing.T) {
	eachGoodMail(func(m impl.Mail) {
		if !impl.MailOk(m) {
			t.Errorf("%q is valid", m)
		}
	})
	eachBadMail(func(m impl.Mail) {
		if impl.MailOk(m) {
			t.Errorf("%q is not valid", m)
		}
	})
}

func TestLimitsOfMessages(t *testing.T) {
	for n := range impl.LineMax + 3 {
		if (impl.DotPut([]string{"a", lineOf(n)}) != "") != (n <= impl.LineMax) {
			t.Errorf("a line of %d bytes", n)
		}
	}
	for n := range impl.BodyMax + 3 {
		if (impl.DotPut(bodyOf(n)) != "") != (n <= impl.BodyMax) {
			t.Errorf("a body of %d lines", n)
		}
	}
	all := []impl.Addr{ann, bob, cat, dan, eve}
	for n := range len(all) + 1 {
		if impl.MailOk(impl.Mail{To: all[:n]}) != (n >= 1 && n <= impl.ToMax) {
			t.Errorf("a message for %d", n)
		}
	}
}

// Promise 4.
func TestDotGetInvertsDotPut(t *testing.T) {
	for _, list := range goodBodies() {
		s := impl.DotPut(list)
		got, ok := impl.DotGet(s)
		if !ok || !slices.Equal(got, list) {
			t.Errorf("DotGet(DotPut(%q)) = %q, %v", list, got, ok)
		}
		lines, rest := impl.LinesOf(s)
		if len(lines) != len(list)+1 || rest != "" || slices.Index(lines, ".") != len(list) {
			t.Errorf("LinesOf(DotPut(%q)) = %q, %q", list, lines, rest)
		}
	}
	for _, list := range badBodies() {
		if s := impl.DotPut(list); s != "" {
			t.Errorf("DotPut(%q) = %q", list, s)
		}
	}
}

func TestDotPut(t *testing.T) {
	cases := map[string][]string{
		".\r\n":                       nil,
		"\r\n.\r\n":                   {""},
		"..\r\n.\r\n":                 {"."},
		"...\r\n.\r\n":                {".."},
		"..a\r\na.\r\n\r\nb\r\n.\r\n": {".a", "a.", "", "b"},
		" .\r\n.. \r\n.\r\n":          {" .", ". "},
	}
	for want, list := range cases {
		if s := impl.DotPut(list); s != want {
			t.Errorf("DotPut(%q) = %q", list, s)
		}
	}
}

// Promise 5.
func TestTransparentFormIsCanonical(t *testing.T) {
	check := func(s string) {
		list, ok := impl.DotGet(s)
		if ok != dotShape.MatchString(s) || !ok && len(list) > 0 {
			t.Errorf("DotGet(%q) = %q, %v", s, list, ok)
		}
		if ok && impl.DotPut(list) != s {
			t.Errorf("DotPut of DotGet(%q) = %q", s, impl.DotPut(list))
		}
		if more, twice := impl.DotGet(s + "." + crlf); ok && (twice || len(more) > 0) {
			t.Errorf("%q goes on behind its end", s)
		}
	}
	eachText([]string{".", crlf, "a", "\r", "\n", "\x7f"}, 7, check)
	eachEdit("a"+crlf+".."+crlf+crlf+"...b"+crlf+"."+crlf, ".\r\n a\x00\x1f\x7f\xff", check)
}

func TestDotGetOfOtherTexts(t *testing.T) {
	full := strings.Repeat("x"+crlf, impl.BodyMax)
	bad := []string{
		"", ".", ".\r", ".\n", "\r\n", "a\r\n", "..\r\n", " .\r\n", ". \r\n", ".\r\n.\r\n", ".\r\nx", ".\r\nx\r\n", ".\r\n\r\n", ".\r\nx\r\n.\r\n",
		".a\r\n.\r\n", "a\n.\r\n", "a\r.\r\n", "a\r\r\n.\r\n", "\r\r\n.\r\n", "\n\r\n.\r\n", "a\x00\r\n.\r\n", "\x1f\r\n.\r\n", "\x7f\r\n.\r\n", "\x80\r\n.\r\n",
		lineOf(impl.LineMax+1) + "\r\n.\r\n", "." + dottedLine() + "x\r\n.\r\n", full + "x\r\n.\r\n",
		strings.Repeat(crlf, impl.FeedMax/2-1) + "." + crlf, strings.Repeat("x", 100000) + "\r\n.\r\n",
	}
	for _, s := range bad {
		if list, ok := impl.DotGet(s); ok || len(list) > 0 {
			t.Errorf("DotGet(%.60q) = %q, %v", s, list, ok)
		}
	}
	good := []string{lineOf(impl.LineMax) + "\r\n.\r\n", "." + dottedLine() + "\r\n.\r\n", full + ".\r\n"}
	for _, s := range good {
		if list, ok := impl.DotGet(s); !ok || impl.DotPut(list) != s {
			t.Errorf("DotGet(%q) = %q, %v", s, list, ok)
		}
	}
}

// Promise 6.
func TestLinesOfPreservesItsInput(t *testing.T) {
	eachText([]string{"a", ".", "\r", "\n", crlf}, 6, func(s string) {
		lines, rest := impl.LinesOf(s)
		back := rest
		if len(lines) > 0 {
			back = strings.Join(lines, crlf) + crlf + rest
		}
		if back != s || strings.Contains(rest, crlf) || strings.Count(s, crlf) != len(lines) {
			t.Errorf("LinesOf(%q) = %q, %q", s, lines, rest)
		}
		for i := range len(s) + 1 {
			first, left := impl.LinesOf(s[:i])
			second, last := impl.LinesOf(left + s[i:])
			if !slices.Equal(slices.Concat(first, second), lines) || last != rest {
				t.Errorf("LinesOf(%q) in two at %d", s, i)
			}
		}
	})
}

func TestLinesOf(t *testing.T) {
	cases := []struct {
		text  string
		lines []string
		rest  string
	}{
		{"", nil, ""}, {"a", nil, "a"}, {"\r", nil, "\r"}, {"\n", nil, "\n"}, {"\n\r", nil, "\n\r"}, {"a\nb\rc", nil, "a\nb\rc"},
		{crlf, []string{""}, ""}, {"a" + crlf, []string{"a"}, ""}, {"a" + crlf + crlf + "b\rc\nd\r", []string{"a", ""}, "b\rc\nd\r"},
		{"\r\r\n\n", []string{"\r"}, "\n"}, {"\x00\xff" + crlf + "\x7f", []string{"\x00\xff"}, "\x7f"},
	}
	for _, c := range cases {
		lines, rest := impl.LinesOf(c.text)
		if !slices.Equal(lines, c.lines) || rest != c.rest {
			t.Errorf("LinesOf(%q) = %q, %q", c.text, lines, rest)
		}
	}
}

func TestLimitOfLinesOf(t *testing.T) {
	full := strings.Repeat(crlf, impl.FeedMax/2)
	if lines, rest := impl.LinesOf(full); len(lines) != impl.FeedMax/2 || rest != "" {
		t.Errorf("LinesOf of FeedMax bytes: %d lines, %q", len(lines), rest)
	}
	plain := lineOf(impl.FeedMax)
	if lines, rest := impl.LinesOf(plain); len(lines) != 0 || rest != plain {
		t.Errorf("LinesOf of FeedMax bytes: %q, %q", lines, rest)
	}
	for _, s := range []string{full + "x", "x" + full, plain + "x", full + crlf, strings.Repeat("a"+crlf, 10000)} {
		if lines, rest := impl.LinesOf(s); len(lines) != 0 || rest != "" {
			t.Errorf("LinesOf of %d bytes: %q, %q", len(s), lines, rest)
		}
	}
}

// Promise 7.
func TestTraceLinesCountAtTheBeginning(t *testing.T) {
	for _, list := range goodBodies() {
		for _, name := range goodDomains {
			got, ok := impl.HopPut(name, list)
			if ok != (len(list) < impl.BodyMax) {
				t.Fatalf("HopPut(%q, %q) = %q, %v", name, list, got, ok)
			}
			if !ok && len(got) > 0 || ok && !slices.Equal(got, append([]string{"Hop: " + name}, list...)) {
				t.Errorf("HopPut(%q, %q) = %q, %v", name, list, got, ok)
			}
			if ok && impl.HopsOf(got) != impl.HopsOf(list)+1 {
				t.Errorf("HopsOf(%q) = %d", got, impl.HopsOf(got))
			}
			if ok && len(got) < impl.BodyMax && impl.HopsOf(append([]string{"x"}, got...)) != 0 {
				t.Errorf("a trace line behind another line counts: %q", got)
			}
		}
	}
}

func TestHopPutOfInvalidArguments(t *testing.T) {
	for _, name := range badDomains {
		if got, ok := impl.HopPut(name, []string{"x"}); ok || len(got) > 0 {
			t.Errorf("HopPut(%.60q, x) = %q, %v", name, got, ok)
		}
	}
	for _, list := range append(badBodies(), bodyOf(impl.BodyMax)) {
		if got, ok := impl.HopPut("one.org", list); ok || len(got) > 0 {
			t.Errorf("HopPut(one.org, %q) = %q, %v", list, got, ok)
		}
	}
	if got, ok := impl.HopPut("one.org", bodyOf(impl.BodyMax-1)); !ok || len(got) != impl.BodyMax {
		t.Errorf("HopPut of BodyMax - 1 lines = %q, %v", got, ok)
	}
}

func TestHopsOf(t *testing.T) {
	cases := []struct {
		list []string
		want int
	}{
		{nil, 0}, {[]string{""}, 0}, {[]string{"x"}, 0}, {[]string{"Hop: a"}, 1}, {[]string{"Hop: a.b.c", "Hop: a.b.c"}, 2},
		{[]string{"Hop: a", "x", "Hop: b"}, 1}, {[]string{"x", "Hop: a"}, 0}, {[]string{"", "Hop: a"}, 0}, {[]string{"Hop: a", "", "Hop: b"}, 1},
		{[]string{"Hop: "}, 0}, {[]string{"Hop:"}, 0}, {[]string{"Hop:a"}, 0}, {[]string{"Hop:  a"}, 0}, {[]string{"Hop: a "}, 0}, {[]string{" Hop: a"}, 0},
		{[]string{"hop: a"}, 0}, {[]string{"Hop: A"}, 0}, {[]string{"Hop: a.b.c.d"}, 0}, {[]string{"Hop: abcdefghi"}, 0}, {[]string{"Hop: a."}, 0},
		{[]string{".Hop: a"}, 0}, {[]string{"Hop: a", "Hop: B", "Hop: c"}, 1}, {slices.Repeat([]string{"Hop: a"}, impl.BodyMax), impl.BodyMax},
		{slices.Repeat([]string{"Hop: a"}, impl.BodyMax+1), -1}, {[]string{"Hop: a", "\r"}, -1}, {[]string{"x", lineOf(impl.LineMax + 1)}, -1},
	}
	for _, c := range cases {
		if got := impl.HopsOf(c.list); got != c.want {
			t.Errorf("HopsOf(%q) = %d, not %d", c.list, got, c.want)
		}
	}
	for _, list := range badBodies() {
		if got := impl.HopsOf(list); got != -1 {
			t.Errorf("HopsOf(%q) = %d", list, got)
		}
	}
}

// Promise 8.
func TestMailGetInvertsMailPut(t *testing.T) {
	longest := 0
	eachGoodMail(func(m impl.Mail) {
		s := impl.MailPut(m)
		got, ok := impl.MailGet(s)
		if !ok || !sameMail(got, m) || len(s) > impl.FeedMax {
			t.Errorf("MailGet(MailPut(%q)) = %q, %v", m, got, ok)
		}
		longest = max(longest, len(s))
	})
	if longest != 733 {
		t.Errorf("the longest message has %d bytes", longest)
	}
	eachBadMail(func(m impl.Mail) {
		if s := impl.MailPut(m); s != "" {
			t.Errorf("MailPut(%q) = %q", m, s)
		}
	})
}

func TestMailPut(t *testing.T) {
	cases := []struct {
		mail impl.Mail
		text string
	}{
		{impl.Mail{To: []impl.Addr{ann}}, "from <>\r\nto <ann@one.org>\r\n\r\n.\r\n"},
		{impl.Mail{From: ann, To: []impl.Addr{bob, ann}, Body: []string{".", "", "a"}}, "from <ann@one.org>\r\nto <bob@two.org>\r\nto <ann@one.org>\r\n\r\n..\r\n\r\na\r\n.\r\n"},
	}
	for _, c := range cases {
		if s := impl.MailPut(c.mail); s != c.text {
			t.Errorf("MailPut(%q) = %q", c.mail, s)
		}
	}
}

// Promise 9.
func TestMailTextsAreCanonical(t *testing.T) {
	taken := 0
	check := func(s string) {
		m, ok := impl.MailGet(s)
		if ok && (impl.MailPut(m) != s || !impl.MailOk(m)) || !ok && !isZeroMail(m) {
			t.Errorf("MailGet(%q) = %q, %v", s, m, ok)
		}
		if ok {
			taken++
		}
	}
	eachEdit("from <a@b>\r\nto <c@d>\r\nto <c@e>\r\n\r\n..x\r\n\r\n.\r\n", "<>@.\r\n aA\x00\x7f\xff", check)
	parts := []string{"from <a@b>\r\n", "from <>\r\n", "to <c@d>\r\n", "to <e@d>\r\n", "to <>\r\n", crlf, "x\r\n", ".\r\n", "..\r\n"}
	eachText(parts, 5, check)
	if taken == 0 {
		t.Error("no message was read")
	}
}

func TestMailGetOfOtherTexts(t *testing.T) {
	five := "to <a@b>\r\nto <b@b>\r\nto <c@b>\r\nto <d@b>\r\nto <e@b>\r\n"
	bad := []string{
		"", crlf, ".\r\n", "\r\n.\r\n", "\r\n\r\n.\r\n", "from <>\r\n", "from <>\r\n\r\n.\r\n", "to <a@b>\r\n\r\n.\r\n", "to <a@b>\r\nfrom <>\r\n\r\n.\r\n",
		"from <>\r\nto <>\r\n\r\n.\r\n", "from <>\r\nto <a@b>\r\nto <>\r\n\r\n.\r\n", "from <>\r\nto <a@b>\r\nto <a@b>\r\n\r\n.\r\n",
		"from <>\r\nfrom <>\r\nto <a@b>\r\n\r\n.\r\n", "from <>\r\nto <a@b>\r\nfrom <>\r\n\r\n.\r\n", "from <>\r\n" + five + "\r\n.\r\n",
		"from <>\r\nto <a@b>\r\n.\r\n", "from <>\r\nto <a@b>\r\n\r\n", "from <>\r\nto <a@b>\r\n\r\nx\r\n", "from <>\r\nto <a@b>\r\n\r\n.x\r\n.\r\n",
		"from <>\r\nto <a@b>\r\n\r\n.\r\n.\r\n", "from <>\r\nto <a@b>\r\n\r\n.\r\nx", "from <>\r\nto <a@b>\r\n\r\n.\r\n\r\n", "x\r\nfrom <>\r\nto <a@b>\r\n\r\n.\r\n",
		" from <>\r\nto <a@b>\r\n\r\n.\r\n", "from  <>\r\nto <a@b>\r\n\r\n.\r\n", "from<>\r\nto <a@b>\r\n\r\n.\r\n", "From <>\r\nto <a@b>\r\n\r\n.\r\n",
		"from <> \r\nto <a@b>\r\n\r\n.\r\n", "from <>\nto <a@b>\r\n\r\n.\r\n", "from <>\rto <a@b>\r\n\r\n.\r\n", "from <>\r\nto <a@b>\n\n.\n", "from <>\r\r\nto <a@b>\r\n\r\n.\r\n",
		"<>\r\nto <a@b>\r\n\r\n.\r\n", "<c@d>\r\nto <a@b>\r\n\r\n.\r\n", "from <>\r\n<a@b>\r\n\r\n.\r\n", "from <>\r\nto <a@b>\r\n<c@d>\r\n\r\n.\r\n",
		"from <A@b>\r\nto <a@b>\r\n\r\n.\r\n", "from \r\nto <a@b>\r\n\r\n.\r\n", "from <>\r\nto a@b\r\n\r\n.\r\n", "from <>\r\nTo <a@b>\r\n\r\n.\r\n",
		"from <>\r\nto <a@b>\r\n \r\n.\r\n", "from <>\r\nto <a@b>\r\n\r\n" + lineOf(impl.LineMax+1) + "\r\n.\r\n",
		"from <>\r\nto <a@b>\r\n\r\n" + strings.Repeat("x\r\n", impl.BodyMax+1) + ".\r\n", "from <>\r\nto <a@b>\r\n\r\na\x7f\r\n.\r\n",
		"from <>\r\nto <a@b>\r\n\r\n" + strings.Repeat(crlf, impl.FeedMax) + ".\r\n", "from <>\r\n" + strings.Repeat("to <a@b>\r\n", 10000) + "\r\n.\r\n",
	}
	for _, s := range bad {
		if m, ok := impl.MailGet(s); ok || !isZeroMail(m) {
			t.Errorf("MailGet(%.80q) = %q, %v", s, m, ok)
		}
	}
}
