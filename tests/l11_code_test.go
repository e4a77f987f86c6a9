package tests

import (
	"encoding/base64"
	"fmt"
	"math/rand/v2"
	"regexp"
	"slices"
	"strings"
	"testing"

	"loop.example/satchel/impl"
)

var (
	codeShape  = regexp.MustCompile(`\A[A-Za-z0-9+/=]*\z`)
	quoteShape = regexp.MustCompile(`\A([!-<>-~]|=[01][0-9A-F]|=20|=3D|=7F|=[89A-F][0-9A-F])*\z`)
)

// madeUp is n bytes, the same ones each time.
func madeUp(n int) string {
	r := rand.New(rand.NewPCG(11, uint64(n)))
	bytes := make([]byte, n)
	for i := range bytes {
		bytes[i] = byte(r.Uint32())
	}
	return string(bytes)
}

func counted(n int) string {
	bytes := make([]byte, n)
	for i := range bytes {
		bytes[i] = byte(i)
	}
	return string(bytes)
}

// eachString calls f for strings of all lengths up to CodeMax, all of up to two bytes among them.
func eachString(f func(s string)) {
	for a := range 256 {
		f(string([]byte{byte(a)}))
		for b := range 256 {
			f(string([]byte{byte(a), byte(b)}))
		}
	}
	for n := range impl.CodeMax + 1 {
		for _, s := range []string{madeUp(n), counted(n), lineOf(n), strings.Repeat("\x00", n), strings.Repeat("\xff", n), strings.Repeat("=", n), strings.Repeat("é\r\n. ", n/6)} {
			f(s)
		}
	}
}

func tooLong() []string {
	list := []string{counted(257), lineOf(100000)}
	for n := impl.CodeMax + 1; n < impl.CodeMax+8; n++ {
		list = append(list, madeUp(n), lineOf(n), strings.Repeat("\x00", n), strings.Repeat("=", n))
	}
	return list
}

func base64Of(s string) string {
	return base64.StdEncoding.EncodeToString([]byte(s))
}

func modelCode(s string) (string, bool) {
	bytes, err := base64.StdEncoding.Strict().DecodeString(s)
	if err != nil || !codeShape.MatchString(s) || len(bytes) > impl.CodeMax {
		return "", false
	}
	return string(bytes), true
}

func quoteOf(s string) string {
	var text strings.Builder
	for i := range len(s) {
		if s[i] < 33 || s[i] > 126 || s[i] == '=' {
			fmt.Fprintf(&text, "=%02X", s[i])
			continue
		}
		text.WriteByte(s[i])
	}
	return text.String()
}

func modelQuote(s string) (string, bool) {
	if !quoteShape.MatchString(s) {
		return "", false
	}
	var bytes []byte
	for rest := s; rest != ""; {
		b := rest[0]
		if b == '=' {
			fmt.Sscanf(rest[1:3], "%02X", &b)
			rest = rest[2:]
		}
		bytes = append(bytes, b)
		rest = rest[1:]
	}
	if len(bytes) > impl.CodeMax {
		return "", false
	}
	return string(bytes), true
}

func linesOfText(s string) []string {
	var list []string
	for len(s) > impl.LineMax {
		list = append(list, s[:impl.LineMax])
		s = s[impl.LineMax:]
	}
	if s != "" {
		list = append(list, s)
	}
	return list
}

// Promise 54.
func TestCodeGetInvertsCodePut(t *testing.T) {
	eachString(func(s string) {
		code := impl.CodePut(s)
		if code != base64Of(s) || len(code) != (len(s)+2)/3*4 {
			t.Errorf("CodePut(%q) = %q", s, code)
		}
		if got, ok := impl.CodeGet(code); !ok || got != s {
			t.Errorf("CodeGet(CodePut(%q)) = %q, %v", s, got, ok)
		}
	})
}

func TestCodePut(t *testing.T) {
	cases := map[string]string{
		"": "", "f": "Zg==", "fo": "Zm8=", "foo": "Zm9v", "foob": "Zm9vYg==", "fooba": "Zm9vYmE=", "foobar": "Zm9vYmFy", "abc": "YWJj",
		"\x00": "AA==", "\x00\x00": "AAA=", "\x00\x00\x00": "AAAA", "\xff": "/w==", "\xff\xff": "//8=", "\xff\xff\xff": "////", "\xfb\xef\xbe": "++++", "\r\n": "DQo=", "=": "PQ==", "é": "w6k=",
	}
	for s, want := range cases {
		if code := impl.CodePut(s); code != want {
			t.Errorf("CodePut(%q) = %q, not %q", s, code, want)
		}
		if got, ok := impl.CodeGet(want); !ok || got != s {
			t.Errorf("CodeGet(%q) = %q, %v", want, got, ok)
		}
	}
	const alphabet = "ABCDEFGHIJKLMNOPQRSTUVWXYZabcdefghijklmnopqrstuvwxyz0123456789+/"
	for i := range alphabet {
		s := string([]byte{byte(i << 2), 0, byte(i)})
		if code := impl.CodePut(s); code[0] != alphabet[i] || code[3] != alphabet[i] {
			t.Errorf("the figure %d: CodePut(%q) = %q", i, s, code)
		}
	}
}

func TestEncodersOfLongStrings(t *testing.T) {
	for _, s := range tooLong() {
		if code, quote, lines := impl.CodePut(s), impl.QuotePut(s), impl.LinesPut(s); code != "" || quote != "" || len(lines) > 0 {
			t.Errorf("%d bytes: %q, %q, %q", len(s), code, quote, lines)
		}
		if got, ok := impl.CodeGet(base64Of(s)); ok || got != "" {
			t.Errorf("CodeGet of the figures of %d bytes: %q, %v", len(s), got, ok)
		}
		if got, ok := impl.QuoteGet(quoteOf(s)); ok || got != "" {
			t.Errorf("QuoteGet of %d bytes that are quoted: %q, %v", len(s), got, ok)
		}
		if got, ok := impl.LinesGet(linesOfText(base64Of(s))); ok || got != "" {
			t.Errorf("LinesGet of the lines of %d bytes: %q, %v", len(s), got, ok)
		}
	}
	for _, s := range []string{madeUp(impl.CodeMax), lineOf(impl.CodeMax), strings.Repeat("\x00", impl.CodeMax)} {
		if len(impl.CodePut(s)) != 320 || len(impl.LinesPut(s)) != 8 || len(impl.QuotePut(s)) < impl.CodeMax {
			t.Errorf("%q has CodeMax bytes: %q, %q", s, impl.CodePut(s), impl.QuotePut(s))
		}
	}
}

func checkCode(t *testing.T, s string) {
	t.Helper()
	got, ok := impl.CodeGet(s)
	if want, may := modelCode(s); got != want || ok != may {
		t.Errorf("CodeGet(%q) = %q, %v, not %q, %v", s, got, ok, want, may)
	}
	if ok && impl.CodePut(got) != s {
		t.Errorf("CodePut of CodeGet(%q) = %q", s, impl.CodePut(got))
	}
	more := "YWJj" + s
	if ok && len(got)+3 <= impl.CodeMax && impl.CodePut("abc"+got) != more {
		t.Errorf("CodePut(%q) = %q, not %q", "abc"+got, impl.CodePut("abc"+got), more)
	}
	if longer, goesOn := impl.CodeGet(more); ok && (goesOn != (len(got)+3 <= impl.CodeMax) || goesOn && longer != "abc"+got) {
		t.Errorf("CodeGet(%q) = %q, %v", more, longer, goesOn)
	}
}

// Promise 55.
func TestBase64IsCanonical(t *testing.T) {
	check := func(s string) { checkCode(t, s) }
	eachText([]string{"A", "Q", "w", "g", "/", "=", "\n"}, 6, check)
	eachText([]string{"QUJD", "QQ==", "QUI=", "Q", "=", "A"}, 4, check)
	for a := range 256 {
		for b := range 256 {
			pair := string([]byte{byte(a), byte(b)})
			for _, s := range []string{pair + "==", "A" + pair + "=", "AA" + pair} {
				check(s)
			}
		}
	}
	eachString(func(s string) { check(base64Of(s)) })
	for n := range 20 {
		eachEdit(base64Of(madeUp(n)), "AQgw+/=-_ \r\n\x00\xff", check)
	}
	eachEdit(base64Of(madeUp(impl.CodeMax)), "A=\n", check)
	eachEdit(base64Of(madeUp(impl.CodeMax-1)), "A=", check)
}

func TestCodeGetOfOtherTexts(t *testing.T) {
	bad := []string{
		"=", "==", "===", "====", "A", "AA", "AAA", "A=", "A==", "A===", "AA=", "AAA==", "AAAA=", "AAAA==", "AAAA===", "AAAA====", "AA=A", "A=AA", "=AAA", "==AA", "A=A=", "=A==",
		"QR==", "QS==", "Qf==", "Q/==", "QUJ=", "QUK=", "QU/=", "AB==", "AAB=", "//==", "///=", "/x==", "//9=",
		"QQ==QQ==", "QQ==QUJD", "QUI=QUJD", "QUJD====", "QUJDQQ", "QUJDQUI", "QUJDQ", "QUJDQ===",
		"QQ==\n", "\nQQ==", "QUJD\n", "QU\nJD", "QUJD\r\nQUJD", "QUJ\nD", "QQ=\n=", "QQ\n==", "\n", "\r\n", "\n\n\n\n", "QUJD\n\n\n\n", "Q Q=", "QQ= ", " QQ==", "QQ== ", "QUJD ", " ", "    ", "QU D",
		"QUI-", "QUI_", "----", "____", "QUJD.", "QU*D", "QUJ\x00", "\x00\x00\x00\x00", "\xff\xff\xff\xff", "QUJ\xff", "éé", "QUJD=QUJ", "QQ==" + "=", "QQ==" + "A",
	}
	for _, s := range bad {
		if got, ok := impl.CodeGet(s); ok || got != "" {
			t.Errorf("CodeGet(%q) = %q, %v", s, got, ok)
		}
	}
	for _, s := range []string{strings.Repeat("A", 324), strings.Repeat("A", 320) + "AA==", strings.Repeat("A", 320) + "AAA=", strings.Repeat("A", 321), strings.Repeat("A", 400000), strings.Repeat("=", 400000)} {
		if got, ok := impl.CodeGet(s); ok || got != "" {
			t.Errorf("CodeGet of %d bytes = %q, %v", len(s), got, ok)
		}
	}
	for _, s := range []string{strings.Repeat("A", 320), strings.Repeat("A", 316) + "AAA=", strings.Repeat("A", 316) + "AA=="} {
		if _, ok := impl.CodeGet(s); !ok {
			t.Errorf("CodeGet(%q) fails", s)
		}
	}
}

// Promise 56.
func TestQuoteGetInvertsQuotePut(t *testing.T) {
	eachString(func(s string) {
		quote := impl.QuotePut(s)
		if quote != quoteOf(s) {
			t.Errorf("QuotePut(%q) = %q", s, quote)
		}
		if got, ok := impl.QuoteGet(quote); !ok || got != s {
			t.Errorf("QuoteGet(QuotePut(%q)) = %q, %v", s, got, ok)
		}
		for _, i := range []int{0, len(s) / 3, len(s)} {
			if parts := impl.QuotePut(s[:i]) + impl.QuotePut(s[i:]); parts != quote {
				t.Errorf("QuotePut of %q in two at %d is %q", s, i, parts)
			}
		}
	})
}

func TestQuotePutOfEachByte(t *testing.T) {
	for b := range 256 {
		s := string([]byte{byte(b)})
		digits := fmt.Sprintf("=%02X", b)
		plain := b > 32 && b < 127 && b != '='
		want := digits
		if plain {
			want = s
		}
		if quote := impl.QuotePut("a" + s + "b"); quote != "a"+want+"b" {
			t.Errorf("the byte %d: %q", b, quote)
		}
		if got, ok := impl.QuoteGet("a" + s + "b"); ok != plain || ok && got != "a"+s+"b" {
			t.Errorf("the byte %d as itself: %q, %v", b, got, ok)
		}
		if got, ok := impl.QuoteGet("a" + digits + "b"); ok == plain || ok && got != "a"+s+"b" {
			t.Errorf("the byte %d as %q: %q, %v", b, digits, got, ok)
		}
		if small := strings.ToLower(digits); small != digits {
			if got, ok := impl.QuoteGet(small); ok || got != "" {
				t.Errorf("QuoteGet(%q) = %q, %v", small, got, ok)
			}
		}
	}
}

func checkQuote(t *testing.T, s string) {
	t.Helper()
	got, ok := impl.QuoteGet(s)
	if want, may := modelQuote(s); got != want || ok != may {
		t.Errorf("QuoteGet(%q) = %q, %v, not %q, %v", s, got, ok, want, may)
	}
	if ok && (impl.QuotePut(got) != s || len(s) < len(got)) {
		t.Errorf("QuotePut of QuoteGet(%q) = %q", s, impl.QuotePut(got))
	}
}

// Promise 57.
func TestQuotingIsCanonical(t *testing.T) {
	check := func(s string) { checkQuote(t, s) }
	eachText([]string{"=", "3", "D", "d", "4", "0", " "}, 6, check)
	for a := range 256 {
		for b := range 256 {
			check(string([]byte{'=', byte(a), byte(b)}))
		}
	}
	for n := range 20 {
		eachEdit(quoteOf(madeUp(n)), "=0AFaG ~\x00\xff", check)
	}
	eachEdit("=3D=3D==20", "=3D", check)
	eachEdit(quoteOf(madeUp(impl.CodeMax)), "=A", check)
	eachEdit(lineOf(impl.CodeMax), "=A", check)
}

func TestQuoteGetOfOtherTexts(t *testing.T) {
	bad := []string{
		"=", "==", "===", "====", "a=", "=a", "=4", "a=4", "=3", "=F", "ab=3", "=3D=", "=3D=3", "=3D=4", "=00=0", "=G0", "=0G", "=-1", "=+1", "= 1", "=1 ", "=\x00\x00", "=x3", "=0x", "=_1", "=1_", "=/0", "=0:", "=@0", "=0@",
		"=3d", "=0a", "=fF", "=Ff", "=ff", "=aA", "=41", "=21", "=7E", "=7e", "=30", "=3C", "=3E", "a=61", "=3D=41",
		" ", "a b", "a ", " a", "\t", "\n", "\r\n", "a=\r\nb", "=\n", "=3D\n", "\x00", "\x1f", "\x7f", "\x80", "\xff", "é", "=C3\xa9",
	}
	for _, s := range bad {
		if got, ok := impl.QuoteGet(s); ok || got != "" {
			t.Errorf("QuoteGet(%q) = %q, %v", s, got, ok)
		}
	}
	good := map[string]string{
		"": "", "a": "a", "=3D": "=", "=3D3D": "=3D", "=3D=3D": "==", "=20": " ", "=7F": "\x7f", "=00": "\x00", "=FF": "\xff", "!~<>": "!~<>", "=C3=A9": "é", "=0D=0A.": "\r\n.", "3D": "3D", "=800": "\x800",
	}
	for s, want := range good {
		if got, ok := impl.QuoteGet(s); !ok || got != want {
			t.Errorf("QuoteGet(%q) = %q, %v", s, got, ok)
		}
	}
}

// Promise 58.
func TestLinesGetInvertsLinesPut(t *testing.T) {
	eachString(func(s string) {
		lines := impl.LinesPut(s)
		if !slices.Equal(lines, linesOfText(base64Of(s))) || strings.Join(lines, "") != impl.CodePut(s) {
			t.Errorf("LinesPut(%q) = %q", s, lines)
		}
		for i, line := range lines {
			if i < len(lines)-1 && len(line) != impl.LineMax || len(line) < 1 || len(line) > impl.LineMax {
				t.Errorf("LinesPut(%q) = %q", s, lines)
			}
		}
		if got, ok := impl.LinesGet(lines); !ok || got != s {
			t.Errorf("LinesGet(LinesPut(%q)) = %q, %v", s, got, ok)
		}
		if m := (impl.Mail{From: ann, To: []impl.Addr{bob}, Body: lines}); !impl.MailOk(m) {
			t.Errorf("a message with %q is not valid", lines)
		}
	})
}

func TestLinesPut(t *testing.T) {
	full := strings.Repeat("AAAA", 10)
	cases := []struct {
		zeros int
		lines []string
	}{
		{0, nil}, {1, []string{"AA=="}}, {2, []string{"AAA="}}, {3, []string{"AAAA"}}, {27, []string{full[:36]}}, {28, []string{full[:36] + "AA=="}}, {29, []string{full[:36] + "AAA="}},
		{30, []string{full}}, {31, []string{full, "AA=="}}, {33, []string{full, "AAAA"}}, {60, []string{full, full}}, {61, []string{full, full, "AA=="}}, {90, []string{full, full, full}},
		{impl.CodeMax - 1, append(slices.Repeat([]string{full}, 7), full[:36]+"AAA=")}, {impl.CodeMax, slices.Repeat([]string{full}, 8)}, {impl.CodeMax + 1, nil},
	}
	for _, c := range cases {
		if lines := impl.LinesPut(strings.Repeat("\x00", c.zeros)); !slices.Equal(lines, c.lines) {
			t.Errorf("LinesPut of %d bytes = %q", c.zeros, lines)
		}
	}
}

func checkLines(t *testing.T, list []string) {
	t.Helper()
	got, ok := impl.LinesGet(list)
	want, may := modelCode(strings.Join(list, ""))
	may = may && slices.Equal(list, linesOfText(strings.Join(list, "")))
	if ok != may || ok && got != want || !ok && got != "" {
		t.Errorf("LinesGet(%q) = %q, %v", list, got, ok)
	}
	if ok && !slices.Equal(impl.LinesPut(got), list) {
		t.Errorf("LinesPut of LinesGet(%q) = %q", list, impl.LinesPut(got))
	}
}

// Promise 59.
func TestDivisionIntoLinesIsCanonical(t *testing.T) {
	full := strings.Repeat("AAAA", 10)
	parts := []string{"", full, "QUJD", "QQ==", full[:36], full + "A", full[:36] + "QUI="}
	var grow func(list []string, left int)
	grow = func(list []string, left int) {
		checkLines(t, list)
		for i := range parts {
			if left > 0 {
				grow(append(slices.Clone(list), parts[i]), left-1)
			}
		}
	}
	grow(nil, 4)
	for _, n := range []int{1, 3, 29, 30, 31, 59, 60, 61, 100} {
		code := base64Of(madeUp(n))
		for i := range len(code) + 1 {
			checkLines(t, []string{code[:i], code[i:]})
			checkLines(t, append(linesOfText(code[:i]), linesOfText(code[i:])...))
			checkLines(t, append(linesOfText(code[:i]), ""))
			eachEdit(code[max(0, i-1):i], "A= \n", func(s string) { checkLines(t, linesOfText(code[:max(0, i-1)]+s+code[i:])) })
		}
	}
	for n := range impl.CodeMax + 8 {
		lines := linesOfText(base64Of(madeUp(n)))
		checkLines(t, lines)
		checkLines(t, append(slices.Clone(lines), ""))
		checkLines(t, append([]string{""}, lines...))
		checkLines(t, append([]string{"QUJD"}, lines...))
	}
}

func TestLinesGetOfOtherLines(t *testing.T) {
	full := strings.Repeat("AAAA", 10)
	bad := [][]string{
		{""}, {"", ""}, {full, ""}, {"", full}, {full, "", full}, {full, full, ""}, {"QQ==", ""}, {"QUJD", "QUJD"}, {"QUJD", full}, {full[:36], full}, {full[:36], "AAAA"}, {full[:39], "A" + full}, {full, full[:39], "A"}, {"Q", "Q", "=", "="},
		{full + "AAAA"}, {full + full}, {full, full + "AAAA"}, {full + "A", full[1:]}, {"QUJ"}, {"QR=="}, {"QQ=="[:3]}, {"QQ==", "QQ=="}, {full[:38] + "==", "AAAA"}, {full[:38] + "==", full},
		{full, "QR=="}, {full, "Q"}, {full, " "}, {full, "\n"}, {full, "QUJD\n"}, {full + "\n"}, {full, "QUJD "}, {"\x00"}, {"\xff\xff\xff\xff"}, {"QU\nD"}, {full[:39] + "\n", full},
		slices.Repeat([]string{full}, 9), append(slices.Repeat([]string{full}, 8), "AA=="), append(slices.Repeat([]string{full}, 8), ""), slices.Repeat([]string{full}, 1000), make([]string, 100000), {lineOf(100000)},
	}
	for _, list := range bad {
		if got, ok := impl.LinesGet(list); ok || got != "" {
			t.Errorf("LinesGet(%.200q) = %q, %v", list, got, ok)
		}
	}
	for _, list := range [][]string{nil, {}} {
		if got, ok := impl.LinesGet(list); !ok || got != "" {
			t.Errorf("LinesGet of no lines = %q, %v", got, ok)
		}
	}
	if got, ok := impl.LinesGet(slices.Repeat([]string{full}, 8)); !ok || got != strings.Repeat("\x00", impl.CodeMax) {
		t.Errorf("LinesGet of eight lines = %q, %v", got, ok)
	}
}

// TestLinesGetOfHugeLines has lines whose sum no memory could hold.
func TestLinesGetOfHugeLines(t *testing.T) {
	huge := strings.Repeat("A", 1<<20)
	if got, ok := impl.LinesGet(slices.Repeat([]string{huge}, 1<<22)); ok || got != "" {
		t.Errorf("LinesGet of huge lines = %d bytes, %v", len(got), ok)
	}
}
