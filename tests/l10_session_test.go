package tests

import (
	"fmt"
	"math/rand/v2"
	"regexp"
	"slices"
	"strconv"
	"strings"
	"testing"

	"loop.example/satchel/impl"
)

// talk is the lines of a session, each with what it puts out, without the newline at the end.
type talk [][2]string

func (x talk) lines() []string {
	var list []string
	for _, pair := range x {
		list = append(list, pair[0])
	}
	return list
}

func (x talk) output() string {
	text := ""
	for _, pair := range x {
		text += pair[1] + "\n"
	}
	return text
}

// checkTalk runs a session of all the parts, and names the first line that puts out something else.
func checkTalk(t *testing.T, parts ...talk) {
	t.Helper()
	all := slices.Concat(parts...)
	for i := range len(all) {
		if got, want := impl.Session(all[:i+1].lines()), all[:i+1].output(); got != want {
			t.Errorf("%.2000q puts out %q, not %q", all[:i+1].lines(), got, want)
			return
		}
	}
}

// pair is two hosts that send mail to each other, two.org also mail that the other one does not take.
func pair() talk {
	return talk{{"host one.org one.org two.org=two.org net=gone.net", "ok"}, {"host two.org two.org,x.com one.org=one.org no.org=one.org", "ok"}}
}

// said is one line and what it puts out.
func said(line string, out string) talk {
	return talk{{line, out}}
}

const exampleInput = `many
host one.org one.org two.org=two.org
host two.org two.org one.org=one.org
host one.org x
many
box <a@one.org>
mail 0 40 <a@one.org> <b@two.org> .hello
many
kept
keep 0
try 0 1 1 40
many
keep 1
box <b@two.org>
many
kept
mail 0 40 <a@one.org> <q@no.net> lost
many
try 0 0 1 40
tick 5
tick x
host z.org z.org
mail 0 40 a b c
what`

const exampleOutput = `what
ok
ok
no
0 0 0 0
end
ok
1 1 0 0
0 0
ok
ok
1 1 0 0
ok
from <a@one.org>|Hop: two.org|Hop: one.org|Id: 1|.hello
end
0 0 1 0
0 0
ok
0 0 1 0
no
ok
what
no
what
what
`

func TestSessionExample(t *testing.T) {
	if out := impl.Session(strings.Split(exampleInput, "\n")); out != exampleOutput {
		t.Errorf("the output is %q", out)
	}
}

func TestSessionWithoutLines(t *testing.T) {
	for _, lines := range [][]string{nil, {}} {
		if out := impl.Session(lines); out != "" {
			t.Errorf("Session(%q) = %q", lines, out)
		}
	}
	checkTalk(t, talk{{"", "what"}, {" ", "what"}, {"host", "what"}, {"\n", "what"}})
}

// eachCommand are commands of every kind that need a host, each with what it puts out behind pair.
func eachCommand() talk {
	return talk{
		{"mail 0 40 <a@one.org> <b@two.org> x", "ok"}, {"try 0 1 1 40", "no"}, {"gone 0 1", "no"}, {"keep 0", "ok"}, {"tick 1", "ok"}, {"calm 1", "ok"},
		{"many", "0 0 0 0"}, {"kept", "0 0"}, {"box <a@one.org>", "end"},
	}
}

func TestCommandsRequireAHost(t *testing.T) {
	for _, command := range eachCommand() {
		checkTalk(t, said(command[0], "what"), said("host one.org", "what"), said(command[0], "what"), said("host One.org x", "no"), said(command[0], "what"), pair(), talk{command})
		checkTalk(t, said("host x -", "ok"), talk{command})
	}
	ahead := talk{}
	for _, command := range eachCommand() {
		ahead = append(ahead, [2]string{command[0], "what"})
	}
	checkTalk(t, ahead, pair(), said("many", "0 0 0 0"))
}

// TestHostBehindWhatWasDone has a host line behind each command, whose output tells whether there may be one.
func TestHostBehindWhatWasDone(t *testing.T) {
	acts := talk{
		{"mail 0 40 <a@one.org> <b@two.org> x", "ok"}, {"mail 0 0 <a@one.org> <b@two.org> x", "ok"}, {"mail 2 40 <a@one.org> <b@two.org> x", "no"}, {"mail x 40 <> <b@two.org> x", "no"},
		{"mail 0 40 <a@one.org> <> x", "no"}, {"mail 0 40 a b c", "what"}, {"mail 0 40 <a@one.org> <b@two.org>", "what"}, {"mail 0 40 <a@one.org> b x", "what"},
		{"try 0 1 1 40", "no"}, {"try x 1 1 40", "no"}, {"try 0 1 1", "what"}, {"try 0 1 1 40 ", "what"}, {"gone 0 1", "no"}, {"gone 0 x", "no"}, {"gone 0", "what"}, {"gone 0 1 1", "what"},
		{"keep 0", "ok"}, {"keep 2", "no"}, {"keep x", "what"}, {"keep", "what"}, {"tick 1", "ok"}, {"tick 0", "no"}, {"tick 41", "no"}, {"tick x", "what"}, {"tick -1", "what"},
		{"calm 0", "ok"}, {"calm 1", "ok"}, {"calm 40", "ok"}, {"calm 41", "what"}, {"calm x", "what"}, {"calm -1", "what"},
		{"many", "0 0 0 0"}, {"many 1", "what"}, {"kept", "0 0"}, {"kept ", "what"}, {"box <a@one.org>", "end"}, {"box <>", "what"}, {"host two.org x", "no"}, {"host three", "what"}, {"what", "what"},
	}
	queries := []string{"many", "kept", "box", "host"}
	for _, act := range acts {
		may := "no"
		if act[1] == "what" || slices.Contains(queries, strings.Split(act[0], " ")[0]) {
			may = "ok"
		}
		checkTalk(t, pair(), talk{act}, said("host three.org -", may), said("keep 2", may))
		checkTalk(t, pair(), talk{act}, said("kept", "0 0"), said("host", "what"), said("host three.org -", may), said("host three.org -", "no"))
	}
	// A try or gone that succeeds needs an item.
	mail := talk{{"mail 0 40 <a@one.org> <b@two.org>,<c@net> x", "ok"}}
	checkTalk(t, pair(), mail, said("try 0 1 1 40", "ok"), said("host three.org -", "no"), said("gone 0 1", "ok"), said("host three.org -", "no"), said("tick x", "what"), said("host three.org -", "no"))
}

// TestNoHostBehindAnAct has what locks the hosts ahead of what does not, which does not unlock them.
func TestNoHostBehindAnAct(t *testing.T) {
	acts := talk{{"mail 2 40 <> <b@two.org> x", "no"}, {"try 0 1 1 40", "no"}, {"gone 0 1", "no"}, {"keep 0", "ok"}, {"tick 0", "no"}, {"calm 0", "ok"}}
	for _, act := range acts {
		checkTalk(t, pair(), talk{act}, said("tick x", "what"), said("keep", "what"), said("many", "0 0 0 0"), said("host three.org -", "no"), said("keep 2", "no"), said("host three.org -", "no"))
	}
}

func TestHostLines(t *testing.T) {
	good := []string{
		"host three.org three.org", "host three.org -", "host three.org a,b,c", "host three.org x.y.z a=b", "host three.org - a=b c=d e=f g=h", "host three.org one.org", "host 3 3", "host three.org a,a,a a=b a=b",
		"host three.org - three.org=three.org", "host three.org - a=nowhere a=nowhere.at.all",
	}
	for _, line := range good {
		checkTalk(t, pair(), said(line, "ok"), said("keep 2", "ok"))
	}
	bad := []string{
		"host one.org x", "host two.org two.org", "host One.org -", "host  -", "host  ", "host - -", "host a.b.c.d -", "host ninebytes -", "host three,four -",
		"host three.org ", "host three.org a,b,c,d", "host three.org a,", "host three.org ,a", "host three.org a,,b", "host three.org ,", "host three.org -,a", "host three.org a,-", "host three.org --", "host three.org A",
		"host three.org - a", "host three.org - a=b=c", "host three.org - a=", "host three.org - =b", "host three.org - =", "host three.org - ", "host three.org - a=b ", "host three.org -  a=b", "host three.org  - a=b", "host  three.org -",
		"host three.org - a=b  c=d", "host three.org - a==b", "host three.org - a=b c", "host three.org - c a=b", "host three.org - a=b,c=d", "host three.org - -", "host three.org - a=-", "host three.org - A=b", "host three.org - a=B",
		"host three.org - a=b c=d e=f g=h i=j", "host three.org - a=b c=d e=f g=h i", "host three.org - a=b\n", "host three.org a=b", "host three.org -\tb",
	}
	for _, line := range bad {
		checkTalk(t, pair(), said(line, "no"), said("keep 2", "no"))
		checkTalk(t, pair(), said(line, "no"), said("host three.org -", "ok"), said("keep 2", "ok"))
	}
	for _, line := range []string{"host", "host ", "host three.org", " host three.org -", "Host three.org -", "HOST three.org -", "hosts three.org -", "host\tthree.org\t-", "host, three.org -"} {
		checkTalk(t, pair(), said(line, "what"), said("host three.org -", "ok"))
	}
}

func TestFifthHost(t *testing.T) {
	hosts := pair()
	for _, name := range []string{"three", "four"} {
		hosts = append(hosts, [2]string{"host " + name + " " + name, "ok"})
	}
	checkTalk(t, hosts, said("host five five", "no"), said("host four four", "no"), said("keep 3", "ok"), said("keep 4", "no"), said("many", "0 0 0 0"))
	checkTalk(t, hosts, said("host five five", "no"), said("mail 3 40 <> <a@four> x", "ok"), said("keep 3", "ok"), said("box <a@four>", "from <>|Hop: four|Id: 1|x\nend"))
}

// TestHostsAreAsTheirLinesSay looks at the local domains and routes through the mail that the hosts take.
func TestHostsAreAsTheirLinesSay(t *testing.T) {
	hosts := talk{{"host hub a,b.net,c org=two.org x.org=hub.org b=hub.org gone=gone.net", "ok"}, {"host two.org -", "ok"}, {"host hub.org x.org,b,org", "ok"}}
	for _, place := range []string{"a", "b.net", "c"} {
		to := "<u@" + place + ">"
		checkTalk(t, hosts, said("mail 0 40 <> "+to+" hi", "ok"), said("many", "1 1 0 0"), said("keep 0", "ok"), said("many", "0 0 1 0"), said("box "+to, "from <>|Hop: hub|Id: 1|hi\nend"))
	}
	for _, place := range []string{"x.org", "y.x.org", "b"} {
		checkTalk(t, hosts, said("mail 0 40 <> <u@"+place+"> hi", "ok"), said("many", "1 1 0 0"), said("keep 0", "ok"), said("try 0 1 1 40", "no"), said("gone 0 1", "no"), said("try 0 2 1 40", "ok"))
	}
	checkTalk(t, hosts, said("mail 0 40 <> <u@org> hi", "ok"), said("try 0 2 1 40", "no"), said("try 0 1 1 40", "ok"), said("many", "0 0 0 1"))
	checkTalk(t, hosts, said("mail 0 40 <> <u@gone> hi", "ok"), said("try 0 1 1 40", "no"), said("try 0 2 1 40", "no"), said("gone 0 1", "ok"), said("gone 0 1", "no"), said("many", "1 1 0 0"))
	for _, place := range []string{"hub", "net", "d", "a.b.net", "two"} {
		checkTalk(t, hosts, said("mail 0 40 <> <u@"+place+"> hi", "ok"), said("many", "0 0 0 0"))
	}
	for _, place := range []string{"two.org", "a", "org"} {
		checkTalk(t, hosts, said("mail 1 40 <> <u@"+place+"> hi", "ok"), said("many", "0 0 0 0"))
	}
}

// TestBlanksBetweenWords has every command with one blank more at each place.
func TestBlanksBetweenWords(t *testing.T) {
	mail := said("mail 0 40 <a@one.org> <b@two.org>,<c@net> x", "ok")
	cases := talk{
		{" try 0 1 1 40", "what"}, {"try  0 1 1 40", "what"}, {"try 0  1 1 40", "what"}, {"try 0 1  1 40", "what"}, {"try 0 1 1  40", "what"}, {"try 0 1 1 40 ", "what"}, {"try 0 1 1 ", "ok"}, {"try 0 1 1", "what"}, {"try 0 1 1 40", "ok"}, {"try", "what"}, {"try ", "what"},
		{"try  1 1 40", "no"}, {"try 0  1 40", "no"}, {"try 0 1  40", "no"}, {"try    ", "no"}, {"try 0 1 1 40 1", "what"},
		{" gone 0 1", "what"}, {"gone  0 1", "what"}, {"gone 0  1", "what"}, {"gone 0 1 ", "what"}, {"gone 0 1", "ok"}, {"gone 0 ", "no"}, {"gone  1", "no"}, {"gone  ", "no"}, {"gone 0", "what"}, {"gone ", "what"}, {"gone", "what"}, {"gone 0 1 x", "what"},
		{" keep 0", "what"}, {"keep  0", "what"}, {"keep 0 ", "what"}, {"keep ", "what"}, {"keep", "what"}, {"keep 0", "ok"}, {"keep 0 1", "what"}, {"keep  ", "what"},
		{" tick 1", "what"}, {"tick  1", "what"}, {"tick 1 ", "what"}, {"tick ", "what"}, {"tick", "what"}, {"tick 1", "ok"}, {"tick 1 1", "what"},
		{" calm 1", "what"}, {"calm  1", "what"}, {"calm 1 ", "what"}, {"calm ", "what"}, {"calm", "what"}, {"calm 1", "ok"}, {"calm 1 1", "what"},
		{" many", "what"}, {"many ", "what"}, {"many", "1 2 0 0"}, {"many  ", "what"}, {"many x", "what"}, {"Many", "what"}, {"many\n", "what"}, {"manykept", "what"},
		{" kept", "what"}, {"kept ", "what"}, {"kept", "0 0"}, {"kept x", "what"}, {"KEPT", "what"}, {"kept\r", "what"},
		{" box <b@two.org>", "what"}, {"box  <b@two.org>", "what"}, {"box <b@two.org> ", "what"}, {"box ", "what"}, {"box", "what"}, {"box <b@two.org>", "end"}, {"box <b@two.org> <b@two.org>", "what"}, {"box<b@two.org>", "what"},
	}
	for _, c := range cases {
		checkTalk(t, pair(), mail, talk{c})
	}
	for _, line := range []string{" mail 0 40 <a@one.org> <b@two.org> x", "mail  0 40 <a@one.org> <b@two.org> x", "mail 0  40 <a@one.org> <b@two.org> x", "mail 0 40  <a@one.org> <b@two.org> x", "mail 0 40 <a@one.org>  <b@two.org> x"} {
		checkTalk(t, pair(), said(line, "what"), said("many", "0 0 0 0"), said("host three -", "ok"))
	}
	for _, line := range []string{"mail", "mail ", "mail 0", "mail 0 40", "mail 0 40 <a@one.org>", "mail 0 40 <a@one.org> ", "mail 0 40 <a@one.org> <b@two.org>", "mails 0 40 <a@one.org> <b@two.org> x", "MAIL 0 40 <a@one.org> <b@two.org> x"} {
		checkTalk(t, pair(), said(line, "what"), said("many", "0 0 0 0"), said("host three -", "ok"))
	}
}

// badNumbers count as -1.
var badNumbers = []string{"", "00", "01", "000000001", "0000000001", "+0", "+1", "-0", "-1", "-2", "1000000000", "4294967296", "4294967297", "18446744073709551616", "18446744073709551617", "x", "0x1", "1x", "x1", "1.0", "1e1", "1_0", "1,", "\u0661", "0\n", "\t1", "1\x00"}

func TestNumbersOfMails(t *testing.T) {
	const rest = " <a@one.org> <b@one.org> x"
	second := talk{{"mail 0 40" + rest, "ok"}, {"keep 0", "ok"}}
	for _, word := range append(badNumbers, "2", "999999999") {
		checkTalk(t, pair(), said("mail "+word+" 40"+rest, "no"), said("many", "0 0 0 0"), second, said("box <b@one.org>", "from <a@one.org>|Hop: one.org|Id: 1|x\nend"))
	}
	for _, word := range append(badNumbers, "0", "1", "9") {
		checkTalk(t, pair(), said("mail 0 "+word+rest, "ok"), said("many", "0 0 0 0"), second, said("box <b@one.org>", "from <a@one.org>|Hop: one.org|Id: 2|x\nend"))
	}
	for _, word := range []string{"11", "40", "41", "999999999"} {
		checkTalk(t, pair(), said("mail 0 "+word+rest, "ok"), said("many", "1 1 0 0"))
	}
	checkTalk(t, pair(), said("mail 1 40 <a@one.org> <b@x.com> x", "ok"), said("keep 1", "ok"), said("many", "0 0 1 0"))
}

func TestNumbersOfTries(t *testing.T) {
	mail := said("mail 0 40 <a@one.org> <b@two.org> x", "ok")
	for _, word := range append(badNumbers, "2", "999999999") {
		none := talk{{"many", "1 1 0 0"}, {"keep 1", "ok"}, {"many", "1 1 0 0"}}
		checkTalk(t, pair(), mail, said("try "+word+" 1 1 40", "no"), none)
		checkTalk(t, pair(), mail, said("try 0 "+word+" 1 40", "no"), none)
		checkTalk(t, pair(), mail, said("try 0 1 "+word+" 40", "no"), none)
	}
	for _, word := range append(badNumbers, "0", "1") {
		// The attempt fails, and the next one is PauseFirst later.
		checkTalk(t, pair(), mail, said("try 0 1 1 "+word, "ok"), said("try 0 1 1 40", "no"), said("tick 2", "ok"), said("try 0 1 1 40", "ok"), said("keep 1", "ok"), said("many", "0 0 1 0"))
	}
	for _, word := range []string{"13", "40", "41", "999999999"} {
		checkTalk(t, pair(), mail, said("try 0 1 1 "+word, "ok"), said("keep 1", "ok"), said("many", "0 0 1 0"))
	}
	checkTalk(t, pair(), said("mail 1 40 <> <b@one.org> x", "ok"), mail, said("mail 0 40 <a@one.org> <c@two.org> y", "ok"), said("try 1 0 1 40", "ok"), said("try 0 1 2 40", "ok"), said("keep 1", "ok"), said("box <c@two.org>", "from <a@one.org>|Hop: two.org|Hop: one.org|Id: 3|y\nend"))
	checkTalk(t, pair(), mail, said("try 0 0 1 40", "no"), said("try 1 0 1 40", "no"), said("try 0 1 2 40", "no"))
}

func TestNumbersOfGone(t *testing.T) {
	mail := said("mail 0 40 <a@one.org> <b@net> x", "ok")
	for _, word := range append(badNumbers, "2", "999999999") {
		checkTalk(t, pair(), mail, said("gone "+word+" 1", "no"), said("gone 0 "+word, "no"), said("gone 0 1", "ok"))
	}
	checkTalk(t, pair(), mail, said("gone 1 1", "no"), said("gone 0 1", "ok"), said("gone 0 1", "no"), said("tick 2", "ok"), said("gone 0 1", "ok"), said("tick 3", "ok"), said("gone 0 1", "no"), said("tick 1", "ok"), said("gone 0 1", "ok"))
	// A recipient who has a next host in the world is none of these.
	checkTalk(t, pair(), said("mail 0 40 <> <b@two.org> x", "ok"), said("gone 0 1", "no"), said("try 0 1 1 40", "ok"))
}

func TestNumbersOfKeepAndTick(t *testing.T) {
	for _, word := range badNumbers {
		checkTalk(t, pair(), said("keep "+word, "what"), said("tick "+word, "what"), said("host three -", "ok"))
	}
	for _, word := range []string{"2", "3", "100", "999999999"} {
		checkTalk(t, pair(), said("keep "+word, "no"), said("host three -", "no"))
	}
	for _, word := range []string{"0", "41", "100", "999999999"} {
		checkTalk(t, pair(), said("tick "+word, "no"), said("host three -", "no"))
	}
	mails := talk{{"mail 0 40 <> <b@one.org> x", "ok"}, {"mail 1 40 <> <b@x.com> y", "ok"}}
	checkTalk(t, pair(), mails, said("keep 1", "ok"), said("box <b@one.org>", "end"), said("box <b@x.com>", "from <>|Hop: two.org|Id: 2|y\nend"), said("keep 0", "ok"), said("box <b@one.org>", "from <>|Hop: one.org|Id: 1|x\nend"))
	checkTalk(t, pair(), said("tick 1", "ok"), said("tick 40", "ok"), said("tick 39", "ok"))
}

// TestTimePasses lets calm and tick bring the time to TimeMax, just so.
func TestTimePasses(t *testing.T) {
	days := talk{{"calm 40", "ok"}, {"calm 40", "ok"}, {"calm 40", "ok"}, {"calm 40", "ok"}, {"calm 40", "ok"}, {"calm 40", "ok"}}
	checkTalk(t, pair(), days, said("calm 9", "ok"), said("tick 40", "no"), said("tick 38", "ok"), said("tick 2", "no"), said("tick 1", "ok"), said("tick 1", "no"), said("calm 1", "ok"), said("keep 0", "ok"))
	checkTalk(t, pair(), days, said("calm 8", "ok"), said("tick 40", "ok"), said("tick 40", "no"), said("tick 39", "ok"), said("tick 1", "no"))
}

func TestCalmLines(t *testing.T) {
	mails := talk{{"mail 0 40 <a@one.org> <b@two.org>,<c@one.org> x", "ok"}, {"mail 0 40 <a@one.org> <q@net> y", "ok"}}
	for _, word := range append(badNumbers, "41", "100", "999999999") {
		checkTalk(t, pair(), mails, said("calm "+word, "what"), said("many", "2 3 0 0"), said("try 0 1 1 40", "ok"))
		checkTalk(t, pair(), said("calm "+word, "what"), said("host three -", "ok"))
	}
	checkTalk(t, pair(), mails, said("calm 0", "ok"), said("many", "2 3 0 0"))
	checkTalk(t, pair(), mails, said("calm 1", "ok"), said("many", "1 1 2 0"), said("gone 0 2", "ok"), said("many", "1 1 2 0"))
	report := said("box <a@one.org>", "from <>|not delivered:|<q@net>|Id: 2\nend")
	checkTalk(t, pair(), mails, said("calm 4", "ok"), said("many", "1 1 2 0"), said("keep 0", "ok"), said("many", "0 0 3 0"), report, said("kept", "0 0"))
	checkTalk(t, pair(), mails, said("calm 40", "ok"), said("many", "0 0 3 0"), report, said("kept", "0 0"), said("box <b@two.org>", "from <a@one.org>|Hop: two.org|Hop: one.org|Id: 1|x\nend"), said("box <c@one.org>", "from <a@one.org>|Hop: one.org|Id: 1|x\nend"))
}

func TestMailLines(t *testing.T) {
	whole := strings.Repeat("y", impl.LineMax)
	for _, text := range []string{"", " ", "  ", "x", ".", ".x", "a b c", " a  b ", "Id: ", "id: 1", "x Id: 1", " Id: 1", "Hop: a", "not delivered:", "a|b", "|", "end", "<a@one.org> x", "~ !", whole, whole[:20] + " " + whole[:19], strings.Repeat(" ", impl.LineMax)} {
		checkTalk(t, pair(), said("mail 0 40 <a@one.org> <b@one.org> "+text, "ok"), said("keep 0", "ok"), said("box <b@one.org>", "from <a@one.org>|Hop: one.org|Id: 1|"+text+"\nend"), said("many", "0 0 1 0"))
	}
	for _, text := range []string{whole + "y", whole + " ", " " + whole, strings.Repeat(" ", impl.LineMax+1), "Id: 1", "Id: x", "Id:  ", "x\ny", "\t", "x\r", "\x7f", "\u00e9", "x\x00", lineOf(100000)} {
		checkTalk(t, pair(), said("mail 0 40 <a@one.org> <b@one.org> "+text, "no"), said("many", "0 0 0 0"), said("host three -", "no"))
	}
}

func TestAddressesOfMails(t *testing.T) {
	for _, from := range []string{"<>", "<a@one.org>", "<q@no.net>", "<0@a.b.c>"} {
		checkTalk(t, pair(), said("mail 0 40 "+from+" <b@one.org> x", "ok"), said("keep 0", "ok"), said("box <b@one.org>", "from "+from+"|Hop: one.org|Id: 1|x\nend"))
	}
	bad := []string{"", "a", "a@one.org", "<a@one.org", "a@one.org>", "<a@>", "<@>", "<@one.org>", "<A@one.org>", "<a@one.org>x", "<<a@one.org>>", "<a@b@c>", "<a@a.b.c.d>", "<ninebytes@a>", "<", ">", "-", "<a@one.org>;"}
	for _, word := range bad {
		checkTalk(t, pair(), said("mail 0 40 "+word+" <b@one.org> x", "what"), said("many", "0 0 0 0"), said("host three -", "ok"))
		for _, to := range []string{word, "<b@one.org>," + word, word + ",<b@one.org>", "<b@one.org>," + word + ",<c@one.org>", "<>," + word} {
			checkTalk(t, pair(), said("mail 0 40 <> "+to+" x", "what"), said("many", "0 0 0 0"), said("host three -", "ok"))
		}
		// Addresses come first: with one that is none, it is no command, whatever else is wrong.
		checkTalk(t, pair(), said("mail 7 x "+word+" <> x", "what"), said("mail 7 x <> "+word+" Id: 1", "what"), said("host three -", "ok"))
	}
	for _, word := range []string{"<a@one.org>,<b@one.org>", "<a@one.org>,", ",<a@one.org>"} {
		checkTalk(t, pair(), said("mail 0 40 "+word+" <b@one.org> x", "what"))
	}
	for _, to := range []string{"<>", "<b@one.org>,<>", "<>,<b@one.org>", "<b@one.org>,<b@one.org>", "<a@one.org>,<b@one.org>,<a@one.org>", "<a@one.org>,<b@one.org>,<c@one.org>,<d@one.org>,<e@one.org>"} {
		checkTalk(t, pair(), said("mail 0 40 <> "+to+" x", "no"), said("many", "0 0 0 0"), said("host three -", "no"))
	}
	checkTalk(t, pair(), said("mail 0 40 <> <d@one.org>,<a@one.org>,<c@two.org>,<b@no.com> x", "ok"), said("many", "1 3 0 0"), said("keep 0", "ok"), said("many", "1 1 2 0"), said("box <a@one.org>", "from <>|Hop: one.org|Id: 1|x\nend"), said("box <d@one.org>", "from <>|Hop: one.org|Id: 1|x\nend"))
	checkTalk(t, pair(), said("mail 0 40 <> <a@one.org>,<b@one.org>,<c@one.org>,<d@one.org> x", "ok"), said("many", "1 4 0 0"))
}

func TestBoxLines(t *testing.T) {
	for _, word := range []string{"<>", "", "a", "<a@one.org", "<A@one.org>", "<a@one.org>,<b@one.org>", "<a@a.b.c.d>", "a@one.org", "<a>", "-"} {
		checkTalk(t, pair(), said("box "+word, "what"), said("host three -", "ok"))
	}
	for _, word := range []string{"<a@one.org>", "<q@no.net>", "<a@a.b.c>"} {
		checkTalk(t, pair(), said("box "+word, "end"), said("host three -", "ok"))
	}
	// x.com is a local domain of both hosts.
	hosts := talk{{"host one.org x.com", "ok"}, {"host two.org x.com", "ok"}}
	mails := talk{{"mail 1 40 <> <b@x.com> first", "ok"}, {"mail 0 40 <a@one.org> <b@x.com>,<c@x.com> ", "ok"}, {"mail 0 40 <a@one.org> <b@x.com> third", "ok"}, {"keep 1", "ok"}, {"keep 0", "ok"}}
	checkTalk(t, hosts, mails, said("box <b@x.com>", "from <a@one.org>|Hop: one.org|Id: 2|\nfrom <a@one.org>|Hop: one.org|Id: 3|third\nfrom <>|Hop: two.org|Id: 1|first\nend"), said("box <c@x.com>", "from <a@one.org>|Hop: one.org|Id: 2|\nend"), said("box <d@x.com>", "end"), said("many", "0 0 4 0"))
}

func TestQueriesOfSessions(t *testing.T) {
	mail := said("mail 0 40 <a@one.org> <b@two.org> x", "ok")
	// The host does not learn that its message was accepted, and sends it again.
	checkTalk(t, pair(), mail, said("try 0 1 1 10", "ok"), said("many", "2 2 0 0"), said("kept", "0 0"), said("tick 2", "ok"), said("try 0 1 1 40", "ok"), said("many", "2 2 0 0"), said("keep 1", "ok"), said("many", "0 0 2 0"), said("kept", "0 1"))
	// A message from the null address that cannot be delivered is lost, and known to be lost.
	hosts := talk{{"host a - b=b c=c", "ok"}, {"host b -", "ok"}}
	checkTalk(t, hosts, said("mail 0 40 <> <u@b>,<v@b> x", "ok"), said("try 0 1 1 40", "ok"), said("many", "0 0 0 2"), said("kept", "0 0"))
	checkTalk(t, hosts, said("mail 0 40 <a@no.net> <u@c> x", "ok"), said("calm 40", "ok"), said("many", "0 0 0 1"), said("kept", "0 0"))
}

func TestLinesBehindSessionMax(t *testing.T) {
	filler := talk(slices.Repeat([][2]string{{"many", "0 0 0 0"}}, impl.SessionMax-6))
	long := slices.Concat(pair(), filler, talk{{"mail 0 40 <> <b@one.org> x", "ok"}, {"keep 0", "ok"}, {"", "what"}, {"box <b@one.org>", "from <>|Hop: one.org|Id: 1|x\nend"}})
	if len(long) != impl.SessionMax {
		t.Fatalf("the session has %d lines", len(long))
	}
	checkTalk(t, long)
	want := long.output()
	for _, more := range [][]string{nil, {"many"}, {"what"}, {""}, {"box <b@one.org>", "many"}, slices.Repeat([]string{"kept"}, 1000)} {
		if got := impl.Session(append(long.lines(), more...)); got != want {
			t.Errorf("with %d more lines it puts out %q", len(more), got)
		}
	}
	for many := range 3 * impl.SessionMax {
		if got, want := impl.Session(make([]string, many)), strings.Repeat("what\n", min(many, impl.SessionMax)); got != want {
			t.Errorf("%d empty lines put out %q", many, got)
		}
	}
}

// Forms of the lines of a session, with the places of the words in parentheses.
var (
	hostForm = regexp.MustCompile(`(?s)^host ([^ ]*) ([^ ]*)((?: [^ ]*)*)$`)
	mailForm = regexp.MustCompile(`(?s)^mail ([^ ]*) ([^ ]*) ([^ ]*) ([^ ]*) (.*)$`)
	tryForm  = regexp.MustCompile(`(?s)^try ([^ ]*) ([^ ]*) ([^ ]*) ([^ ]*)$`)
	goneForm = regexp.MustCompile(`(?s)^gone ([^ ]*) ([^ ]*)$`)
	timeForm = regexp.MustCompile(`(?s)^(keep|tick|calm) ([^ ]*)$`)
	boxForm  = regexp.MustCompile(`(?s)^box ([^ ]*)$`)
	wayForm  = regexp.MustCompile(`(?s)^([^=]+)=([^=]+)$`)
	number   = regexp.MustCompile(`(?s)^(0|[1-9][0-9]{0,8})$`)
)

// modelSession is chapter 10, word by word, above the functions of the chapters before it.
type modelSession struct {
	confs []impl.Conf
	world impl.World
	acted bool
}

func modelNumber(word string) int {
	if !number.MatchString(word) {
		return -1
	}
	n, _ := strconv.Atoi(word)
	return n
}

func (s *modelSession) event(e impl.Event) string {
	next, ok := impl.WorldDo(s.world, e)
	s.acted = true
	if !ok {
		return "no\n"
	}
	s.world = next
	return "ok\n"
}

func (s *modelSession) host(words []string) string {
	c := impl.Conf{Name: words[1]}
	if words[2] != "-" {
		c.Own = strings.Split(words[2], ",")
	}
	for _, word := range strings.Split(words[3], " ")[1:] {
		sides := wayForm.FindStringSubmatch(word)
		if sides == nil {
			return "no\n"
		}
		c.Ways = append(c.Ways, way(sides[1], sides[2]))
	}
	confs := append(slices.Clone(s.confs), c)
	if s.acted || !impl.WorldOk(impl.WorldNew(confs)) {
		return "no\n"
	}
	s.confs, s.world = confs, impl.WorldNew(confs)
	return "ok\n"
}

func (s *modelSession) mail(words []string) string {
	from, ok := impl.AddrGet(words[3])
	m := impl.Mail{From: from, Body: []string{words[5]}}
	for _, word := range strings.Split(words[4], ",") {
		a, good := impl.AddrGet(word)
		m.To, ok = append(m.To, a), ok && good
	}
	if !ok {
		return "what\n"
	}
	return s.event(submit(modelNumber(words[1]), modelNumber(words[2]), m))
}

func (s *modelSession) time(words []string) string {
	n := modelNumber(words[2])
	switch {
	case n < 0 || words[1] == "calm" && n > impl.CalmMax:
		return "what\n"
	case words[1] == "keep":
		return s.event(keep(n))
	case words[1] == "tick":
		return s.event(tick(n))
	}
	s.world, s.acted = impl.WorldCalm(s.world, n), true
	return "ok\n"
}

func (s *modelSession) box(words []string) string {
	a, ok := impl.AddrGet(words[1])
	if !ok || a == (impl.Addr{}) {
		return "what\n"
	}
	text := ""
	for _, g := range impl.LookBox(s.world, a) {
		text += "from " + impl.AddrPut(g.From)
		for _, line := range g.Body {
			text += "|" + line
		}
		text += "\n"
	}
	return text + "end\n"
}

func (s *modelSession) answer(line string) string {
	if words := hostForm.FindStringSubmatch(line); words != nil {
		return s.host(words)
	}
	if len(s.confs) == 0 {
		return "what\n"
	}
	if words := mailForm.FindStringSubmatch(line); words != nil {
		return s.mail(words)
	}
	if words := tryForm.FindStringSubmatch(line); words != nil {
		return s.event(try(modelNumber(words[1]), modelNumber(words[2]), modelNumber(words[3]), modelNumber(words[4])))
	}
	if words := goneForm.FindStringSubmatch(line); words != nil {
		return s.event(gone(modelNumber(words[1]), modelNumber(words[2])))
	}
	if words := timeForm.FindStringSubmatch(line); words != nil {
		return s.time(words)
	}
	if words := boxForm.FindStringSubmatch(line); words != nil {
		return s.box(words)
	}
	switch line {
	case "many":
		return strings.Trim(fmt.Sprint(impl.LookMany(s.world)), "[]") + "\n"
	case "kept":
		return fmt.Sprintln(impl.WorldKept(s.world), impl.LookTwice(s.world))
	}
	return "what\n"
}

// speaker makes up the lines of sessions.
type speaker struct {
	player
}

func (p speaker) number(most int) string {
	if p.IntN(25) == 0 {
		return pick(p.player, badNumbers)
	}
	return strconv.Itoa(p.IntN(most + 1))
}

func (p speaker) cutWord() string {
	if p.IntN(4) > 0 {
		return pick(p.player, []string{"40", "40", "10"})
	}
	return p.number(20)
}

func (p speaker) addrWord() string {
	if p.IntN(30) == 0 {
		return pick(p.player, []string{"", "<>", "a", "<a@b", "<A@one.org>"})
	}
	return impl.AddrPut(p.addr())
}

func (p speaker) hostLine() string {
	line := "host " + pick(p.player, []string{"one.org", "two.org", "three", "x.com", "B"}) + " " + pick(p.player, []string{"-", "one.org", "two.org,x.com", "three", "a,b,c", "a,b,c,d", ""})
	for range p.IntN(impl.WaysMax + 2) {
		line += " " + pick(p.player, []string{"one.org=one.org", "two.org=two.org", "x.com=three", "org=two.org", "net=gone.net", "org=one.org", "three=one.org", "a=three"})
	}
	if p.IntN(15) == 0 {
		line += " " + pick(p.player, []string{"", "a", "=b", "a=", "a=b=c"})
	}
	return line
}

func (p speaker) mailLine() string {
	to := p.addrWord()
	for range p.IntN(3) {
		to += "," + p.addrWord()
	}
	return "mail " + p.number(2) + " " + p.cutWord() + " " + p.addrWord() + " " + to + " " + pick(p.player, []string{"x", "", " ", "a b", ".", "Id: 1", "Hop: a", lineOf(impl.LineMax), lineOf(impl.LineMax + 1), "not delivered:"})
}

func (p speaker) line() string {
	switch p.IntN(12) {
	case 0, 1, 2:
		return p.mailLine()
	case 3:
		return "try " + p.number(2) + " " + p.number(2) + " " + p.number(5) + " " + p.cutWord()
	case 4:
		return "try 0 1 " + p.number(4) + " " + p.cutWord()
	case 5:
		return "gone " + p.number(1) + " " + p.number(5)
	case 6:
		return "keep " + p.number(2)
	case 7:
		return "tick " + p.number(8)
	case 8:
		return pick(p.player, []string{"many", "kept", "box <b@two.org>", "box <a@one.org>"})
	case 9:
		return "box " + p.addrWord()
	case 10:
		return p.hostLine()
	}
	return pick(p.player, []string{"calm 0", "calm 1", "calm 2", "calm 40", "calm 41", "calm x", "many", "kept", "", "what", "host", "host one.org", "keep", "mail", "try 0", "gone 0", "tick  1", "many ", " many"})
}

// spoilt is a line with a byte added or removed, or the line as it is.
func (p speaker) spoilt(line string) string {
	at := p.IntN(len(line) + 1)
	switch p.IntN(30) {
	case 0:
		return line[:at] + pick(p.player, []string{" ", "0", ",", "=", "<", ">", "-", "\n"}) + line[at:]
	case 1:
		return line[:at] + line[min(at+1, len(line)):]
	}
	return line
}

// eachSession calls f for sessions of up to SessionMax lines and some more, the same ones each time.
func eachSession(many int, f func(lines []string)) {
	p := speaker{player{rand.New(rand.NewPCG(13, 17)), 3, []string{"one.org", "two.org", "x.com", "net", "three"}, false}}
	for i := range many {
		var lines []string
		if i%4 > 0 {
			lines = slices.Concat(pair().lines(), []string{"host three three org=one.org"})[:1+i%3]
		}
		for range p.IntN(4) {
			lines = append(lines, p.spoilt(p.hostLine()))
		}
		for range p.IntN(impl.SessionMax + 10) {
			lines = append(lines, p.spoilt(p.line()))
		}
		f(lines)
	}
}

func TestSessionsAgainstAModel(t *testing.T) {
	seen := map[string]int{}
	eachSession(2000, func(lines []string) {
		var s modelSession
		want := ""
		for _, line := range lines[:min(len(lines), impl.SessionMax)] {
			out := s.answer(line)
			want += out
			seen[strings.Split(line, " ")[0]+" "+out]++
		}
		if got := impl.Session(lines); got != want {
			t.Errorf("%q puts out %q, not %q", lines, got, want)
		}
	})
	expected := []string{"calm ok", "calm what", "many what", "many 0 0 0 0", "kept what", "kept 0 0", "kept 0 1", "box what", "box end"}
	for _, name := range []string{"host", "mail", "try", "gone", "keep", "tick"} {
		expected = append(expected, name+" ok", name+" no", name+" what")
	}
	for _, x := range expected {
		if seen[x+"\n"] == 0 {
			t.Errorf("there is no %s", x)
		}
	}
}

// Promise 52.
func TestOutputDependsOnPrecedingLines(t *testing.T) {
	eachSession(150, func(lines []string) {
		whole := impl.Session(lines)
		if n := strings.Count(whole, "\n"); n < min(len(lines), impl.SessionMax) {
			t.Errorf("%q puts out %d lines", lines, n)
		}
		for i := range len(lines) + 1 {
			part := impl.Session(lines[:i])
			if !strings.HasPrefix(whole, part) {
				t.Errorf("%q puts out %q, and %d of the lines put out %q", lines, whole, i, part)
			}
			if i >= impl.SessionMax && part != whole {
				t.Errorf("%q puts out something behind SessionMax lines: %q", lines, whole)
			}
			if i < impl.SessionMax && i < len(lines) && part == impl.Session(lines[:i+1]) {
				t.Errorf("%q puts out nothing in %q", lines[i], lines)
			}
		}
	})
}

// Promise 53.
func TestQueriesChangeNothing(t *testing.T) {
	queries := []string{"many", "kept", "box <b@two.org>", "many"}
	busy := 0
	eachSession(400, func(lines []string) {
		lines = lines[:min(len(lines), impl.SessionMax-len(queries))]
		before := impl.Session(lines)
		first := strings.TrimPrefix(impl.Session(append(slices.Clone(lines), "many")), before)
		out := strings.TrimPrefix(impl.Session(append(slices.Clone(lines), queries...)), before)
		if !strings.HasPrefix(out, first) || !strings.HasSuffix(out, "\n"+first) {
			t.Errorf("the queries behind %q put out %q", lines, out)
		}
		if first != "what\n" && first != "0 0 0 0\n" {
			busy++
		}
	})
	if busy < 100 {
		t.Errorf("only %d worlds have mail", busy)
	}
}

// TestQueriesAreLeftOut drops the queries of a session, behind which the other lines put out the same.
func TestQueriesAreLeftOut(t *testing.T) {
	isQuery := func(line string) bool {
		return slices.Contains([]string{"many", "kept", "box"}, strings.Split(line, " ")[0])
	}
	eachSession(300, func(lines []string) {
		lines = lines[:min(len(lines), impl.SessionMax)]
		want := ""
		for i, line := range lines {
			if !isQuery(line) {
				want += strings.TrimPrefix(impl.Session(lines[:i+1]), impl.Session(lines[:i]))
			}
		}
		if got := impl.Session(slices.DeleteFunc(slices.Clone(lines), isQuery)); got != want {
			t.Errorf("%q without its queries puts out %q, not %q", lines, got, want)
		}
	})
}
