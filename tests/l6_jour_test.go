package tests

import (
	"fmt"
	"hash/crc32"
	"regexp"
	"slices"
	"strings"
	"testing"

	"loop.example/satchel/impl"
)

const (
	numberPattern = `(0|[1-9][0-9]{0,3})`
	targetPattern = `[1-9][0-9]{0,2} <[a-z0-9]{1,8}@` + domainPattern + `>`
)

var (
	doneShape  = regexp.MustCompile(`\Adone ` + targetPattern + `\z`)
	laterShape = regexp.MustCompile(`\Alater ` + targetPattern + ` ` + numberPattern + `\z`)
	addShape   = regexp.MustCompile(`\Aadd ` + numberPattern + `\n`)
)

func addNote(m impl.Mail, now int) impl.Note {
	return impl.Note{Kind: impl.NoteAdd, Mail: m, Now: now}
}

func doneNote(id int, a impl.Addr) impl.Note {
	return impl.Note{Kind: impl.NoteDone, Id: id, Addr: a}
}

func laterNote(id int, a impl.Addr, now int) impl.Note {
	return impl.Note{Kind: impl.NoteLater, Id: id, Addr: a, Now: now}
}

func goodNotes() []impl.Note {
	var list []impl.Note
	for _, now := range []int{0, 1, 10, 999, impl.TimeMax - 1, impl.TimeMax} {
		list = append(list, addNote(letter(), now))
		for _, id := range []int{1, 2, 4, 8, 10, impl.IdMax - 1, impl.IdMax} {
			list = append(list, laterNote(id, ann, now), laterNote(id, longAddrs[0], now))
		}
	}
	for _, id := range []int{1, 2, 4, 7, 9, 10, 99, 100, impl.IdMax} {
		for _, a := range append(goodAddrs, ann, bob, eve) {
			list = append(list, doneNote(id, a))
		}
	}
	eachGoodMail(func(m impl.Mail) { list = append(list, addNote(m, 7)) })
	return list
}

func badNotes() []impl.Note {
	list := []impl.Note{{}, doneNote(1, impl.Addr{}), laterNote(1, impl.Addr{}, 3)}
	for _, kind := range []int{0, -1, 4, 1 << 40, -1 << 63} {
		list = append(list, impl.Note{Kind: kind}, impl.Note{Kind: kind, Id: 1, Addr: ann}, impl.Note{Kind: kind, Id: 1, Addr: ann, Now: 3}, impl.Note{Kind: kind, Mail: letter()})
	}
	for _, id := range []int{0, -1, impl.IdMax + 1, 1 << 40, -1 << 63} {
		list = append(list, doneNote(id, ann), laterNote(id, ann, 3))
	}
	for _, now := range []int{-1, impl.TimeMax + 1, 1 << 40, -1 << 63} {
		list = append(list, addNote(letter(), now), laterNote(1, ann, now))
	}
	for _, a := range badAddrs {
		list = append(list, doneNote(1, a), laterNote(1, a, 3))
	}
	eachBadMail(func(m impl.Mail) { list = append(list, addNote(m, 3)) })
	return append(list, notesWithMore()...)
}

// notesWithMore have something in a field that their kind does not have.
func notesWithMore() []impl.Note {
	var list []impl.Note
	for _, x := range []impl.Note{
		{Kind: impl.NoteAdd, Id: 1}, {Kind: impl.NoteAdd, Id: -1}, {Kind: impl.NoteAdd, Addr: ann}, {Kind: impl.NoteAdd, Addr: impl.Addr{User: "a"}},
		{Kind: impl.NoteAdd, Addr: impl.Addr{Domain: "a"}},
	} {
		x.Mail = letter()
		list = append(list, x)
	}
	for _, kind := range []int{impl.NoteDone, impl.NoteLater} {
		for _, m := range []impl.Mail{letter(), {From: ann}, {From: impl.Addr{User: "a"}}, {To: []impl.Addr{ann}}, {To: []impl.Addr{{}}}, {Body: []string{"x"}}, {Body: []string{""}}} {
			list = append(list, impl.Note{Kind: kind, Id: 1, Addr: ann, Mail: m})
		}
	}
	for _, now := range []int{1, -1, impl.TimeMax} {
		list = append(list, impl.Note{Kind: impl.NoteDone, Id: 1, Addr: ann, Now: now})
	}
	return list
}

func sameNote(a impl.Note, b impl.Note) bool {
	return a.Kind == b.Kind && a.Id == b.Id && a.Addr == b.Addr && a.Now == b.Now && sameMail(a.Mail, b.Mail)
}

func noteText(n impl.Note) string {
	return fmt.Sprintf("{%d Id %d %.40q Now %d %.200q}", n.Kind, n.Id, n.Addr, n.Now, n.Mail)
}

// recordOf is the record of a note's text, with the checksum of the standard library.
func recordOf(text string) string {
	return fmt.Sprintf("%d %d %s;", len(text), crc32.ChecksumIEEE([]byte(text)), text)
}

// story is the notes of a journal that has each kind of them, removes an item, and gives an Id behind it.
func story() []impl.Note {
	return []impl.Note{
		addNote(impl.Mail{From: eve, To: []impl.Addr{ann, bob}, Body: []string{".one;", "", "9 9 x;"}}, 3),
		laterNote(1, ann, 9),
		addNote(impl.Mail{To: []impl.Addr{cat}}, impl.TimeMax),
		doneNote(1, bob),
		doneNote(2, cat),
		laterNote(1, ann, 11),
		addNote(letter(), 0),
		doneNote(1, ann),
	}
}

// journalOf is the journal of notes, and where each of its records ends.
func journalOf(notes []impl.Note) (string, []int) {
	j, ends := "", []int{0}
	for _, n := range notes {
		j += recordOf(impl.NotePut(n))
		ends = append(ends, len(j))
	}
	return j, ends
}

// spoolAfter performs notes with the operations of the spool.
func spoolAfter(t *testing.T, notes []impl.Note) impl.Spool {
	t.Helper()
	s := impl.Spool{}
	for _, n := range notes {
		next, ok := performed(s, n)
		if !ok {
			t.Errorf("%s cannot be done to %s", noteText(n), spoolText(s))
		}
		s = next
	}
	return s
}

func performed(s impl.Spool, n impl.Note) (impl.Spool, bool) {
	switch n.Kind {
	case impl.NoteAdd:
		return impl.SpoolAdd(s, n.Mail, n.Now)
	case impl.NoteDone:
		return impl.SpoolDone(s, n.Id, n.Addr)
	}
	return impl.SpoolLater(s, n.Id, n.Addr, n.Now)
}

func checkRead(t *testing.T, j string, want impl.Spool, read int) {
	t.Helper()
	s, n := impl.JourRead(j)
	if !sameSpool(s, want) || n != read || !impl.SpoolOk(s) {
		t.Errorf("JourRead(%.200q) of %d bytes = %s, %d, not %s, %d", j, len(j), spoolText(s), n, spoolText(want), read)
	}
}

// Promise 27.
func TestCrc(t *testing.T) {
	if got := impl.Crc("123456789"); got != 3421780262 {
		t.Errorf("Crc = %d", got)
	}
	if got := impl.Crc(""); got != 0 {
		t.Errorf("Crc of nothing = %d", got)
	}
	texts := []string{lineOf(100000), strings.Repeat("\x00", 33), strings.Repeat("\xff", 33)}
	for b := range 256 {
		texts = append(texts, string([]byte{byte(b)}), "a"+string([]byte{byte(b)})+"b")
	}
	for _, n := range story() {
		texts = append(texts, impl.NotePut(n))
	}
	for _, s := range texts {
		if got, want := impl.Crc(s), int(crc32.ChecksumIEEE([]byte(s))); got != want {
			t.Errorf("Crc(%.60q) = %d, not %d", s, got, want)
		}
	}
}

func TestCrcOfAFlippedBit(t *testing.T) {
	for _, s := range []string{"x", "\x00", "123456789", impl.NotePut(story()[0]), strings.Repeat("\x00", 50)} {
		for i := range len(s) {
			for bit := range 8 {
				b := []byte(s)
				b[i] ^= 1 << bit
				if impl.Crc(string(b)) == impl.Crc(s) {
					t.Errorf("Crc(%q) = Crc(%q)", b, s)
				}
			}
		}
	}
}

func TestNoteOk(t *testing.T) {
	for _, n := range goodNotes() {
		if !impl.NoteOk(n) {
			t.Errorf("%s is valid", noteText(n))
		}
	}
	for _, n := range badNotes() {
		if impl.NoteOk(n) {
			t.Errorf("%s is not valid", noteText(n))
		}
	}
	empty := impl.Mail{To: []impl.Addr{}, Body: []string{}}
	if !impl.NoteOk(impl.Note{Kind: impl.NoteDone, Id: 1, Addr: ann, Mail: empty}) || !impl.NoteOk(impl.Note{Kind: impl.NoteLater, Id: 1, Addr: ann, Mail: empty}) {
		t.Error("an empty slice is a nil slice")
	}
}

func TestNotePut(t *testing.T) {
	cases := map[string]impl.Note{
		"add 3\nfrom <e@a.b.c>\r\nto <ann@one.org>\r\nto <bob@two.org>\r\n\r\nhi\r\n..x\r\n.\r\n": addNote(letter(), 3),
		"add 0\nfrom <>\r\nto <ann@one.org>\r\n\r\n.\r\n":                                         addNote(impl.Mail{To: []impl.Addr{ann}}, 0),
		"add 9999\nfrom <>\r\nto <ann@one.org>\r\n\r\n.\r\n":                                      addNote(impl.Mail{To: []impl.Addr{ann}}, 9999),
		"done 1 <ann@one.org>":         doneNote(1, ann),
		"done 999 <e@a.b.c>":           doneNote(999, eve),
		"later 10 <bob@two.org> 0":     laterNote(10, bob, 0),
		"later 999 <bob@two.org> 9999": laterNote(999, bob, 9999),
	}
	for text, n := range cases {
		if got := impl.NotePut(n); got != text {
			t.Errorf("NotePut(%s) = %q", noteText(n), got)
		}
		if got, ok := impl.NoteGet(text); !ok || !sameNote(got, n) {
			t.Errorf("NoteGet(%q) = %s, %v", text, noteText(got), ok)
		}
	}
}

// Promise 28.
func TestNoteGetInvertsNotePut(t *testing.T) {
	longest := 0
	for _, n := range goodNotes() {
		s := impl.NotePut(n)
		got, ok := impl.NoteGet(s)
		if !ok || s == "" || !sameNote(got, n) {
			t.Errorf("NoteGet(NotePut(%s)) = %s, %v", noteText(n), noteText(got), ok)
		}
		longest = max(longest, len(s))
	}
	for _, n := range badNotes() {
		if s := impl.NotePut(n); s != "" {
			t.Errorf("NotePut(%s) = %q", noteText(n), s)
		}
	}
	if longest > impl.FeedMax+20 {
		t.Errorf("a note of %d bytes", longest)
	}
}

// isNote tells by the shape of a text whether it is the encoding of a note.
func isNote(s string) bool {
	if head := addShape.FindString(s); head != "" {
		_, ok := impl.MailGet(s[len(head):])
		return ok
	}
	return doneShape.MatchString(s) || laterShape.MatchString(s)
}

func checkNoteText(t *testing.T, s string) {
	t.Helper()
	n, ok := impl.NoteGet(s)
	if ok != isNote(s) || ok && (!impl.NoteOk(n) || impl.NotePut(n) != s) || !ok && !sameNote(n, impl.Note{}) {
		t.Errorf("NoteGet(%.200q) = %s, %v", s, noteText(n), ok)
	}
}

// Promise 29.
func TestNoteTextsAreCanonical(t *testing.T) {
	for _, s := range []string{
		"add 30\nfrom <a@b>\r\nto <c@d>\r\n\r\n..x\r\n.\r\n", "add 9999\nfrom <>\r\nto <c@d>\r\n\r\n.\r\n", "add 0\nfrom <>\r\nto <c@d>\r\n\r\n.\r\n",
		"done 10 <a@b.c>", "done 999 <a@b>", "done 1 <a@b>", "later 10 <a@b> 30", "later 999 <a@b.c> 9999", "later 1 <a@b> 0",
	} {
		if !isNote(s) {
			t.Errorf("%q is a note", s)
		}
		checkNoteText(t, s)
		eachEdit(s, "0123456789<>@. \r\n\t;aA+-_x\x00\xff", func(s string) { checkNoteText(t, s) })
	}
	parts := []string{"add ", "done ", "later ", "1", "0", " ", "<a@b>", "<>", "\n", "from <>\r\nto <a@b>\r\n\r\n.\r\n"}
	eachText(parts, 5, func(s string) { checkNoteText(t, s) })
}

func TestNumbersOfNotes(t *testing.T) {
	numbers := map[string]bool{
		"": false, "0": true, "1": true, "9": true, "10": true, "998": true, "999": true, "1000": true, "9999": true, "10000": false, "00": false, "01": false, "007": false,
		"-1": false, "-0": false, "+1": false, "1 ": false, " 1": false, "1_0": false, "0x1": false, "1e1": false, "1.0": false, "x": false, "1x": false,
		"99999999999999999999": false, "18446744073709551617": false, "-9223372036854775808": false, "\u0661": false,
	}
	for s, isTime := range numbers {
		isId := isTime && s != "0" && len(s) < 4
		checks := map[string]bool{
			"add " + s + "\nfrom <>\r\nto <a@b>\r\n\r\n.\r\n": isTime, "later 1 <a@b> " + s: isTime,
			"done " + s + " <a@b>": isId, "later " + s + " <a@b> 1": isId,
		}
		for text, want := range checks {
			n, ok := impl.NoteGet(text)
			if ok != want || !ok && !sameNote(n, impl.Note{}) || ok && impl.NotePut(n) != text {
				t.Errorf("NoteGet(%q) = %s, %v", text, noteText(n), ok)
			}
		}
	}
}

func TestNoteGetOfOtherTexts(t *testing.T) {
	mail := "from <>\r\nto <a@b>\r\n\r\n.\r\n"
	bad := []string{
		"", " ", "add", "add ", "add 3", "add 3\n", "add \n" + mail, "add 3" + mail, "add 3 " + mail, "add 3\r\n" + mail, "add 3\n\n" + mail, "add  3\n" + mail, "add3\n" + mail,
		"Add 3\n" + mail, " add 3\n" + mail, "add 3\n" + mail + "x", "add 3\n" + mail + "\n", "add 3\n" + mail + mail, "add 3\nfrom <>\r\n\r\n.\r\n", "add 3\nfrom <>\nto <a@b>\n\n.\n",
		"3\n" + mail, mail, "done", "done ", "done 1", "done 1 ", "done <a@b>", "done <a@b> 1", "done  1 <a@b>", "done 1  <a@b>", "done 1 <>", "done 1 <a@b> ", "done 1 <a@b> 2", "done 1<a@b>",
		"done1 <a@b>", "done 1 <A@b>", "done 1 a@b", "done 1 <a@b><c@d>", "done 1 <a@b>\n", "done 1\n<a@b>", "done\n1 <a@b>", "DONE 1 <a@b>", "done 1 2 <a@b>",
		"later", "later ", "later 1", "later 1 <a@b>", "later 1 <a@b> ", "later 1 <> 2", "later 1 2 <a@b>", "later 1 <a@b> 2 ", "later 1 <a@b> 2 3", "later 1 <a@b>  2", "later  1 <a@b> 2",
		"later 1 <a@b>2", "later <a@b> 2", "later 1 <a@b> <c@d> 2", "later 1 <a@b> 2\n", "later 2 <a@b>\n2", "Later 1 <a@b> 2",
		"done " + strings.Repeat("1", 100000) + " <a@b>", "later 1 <a@b> " + strings.Repeat("0", 100000), strings.Repeat("done 1 <a@b>", 10000),
		"add 3\nfrom <>\r\n" + strings.Repeat("to <a@b>\r\n", impl.FeedMax) + "\r\n.\r\n", "add 3\n" + strings.Repeat(crlf, impl.FeedMax),
	}
	for _, s := range bad {
		if n, ok := impl.NoteGet(s); ok || !sameNote(n, impl.Note{}) {
			t.Errorf("NoteGet(%.80q) = %s, %v", s, noteText(n), ok)
		}
	}
}

// Promise 30.
func TestNotePerformsItsOperation(t *testing.T) {
	grown := map[int]int{}
	check := func(s impl.Spool, n impl.Note) {
		want, may := performed(s, n)
		got, ok := impl.NoteDo(s, n)
		if ok != may || !sameSpool(got, want) || !ok && !sameSpool(got, s) || !impl.SpoolOk(got) {
			t.Errorf("NoteDo(%s, %s) = %s, %v", spoolText(s), noteText(n), spoolText(got), ok)
		}
		more := map[int]int{impl.NoteAdd: len(n.Mail.To), impl.NoteDone: -1, impl.NoteLater: 0}[n.Kind]
		if ok && impl.SpoolMany(got) != impl.SpoolMany(s)+more {
			t.Errorf("NoteDo(%s, %s) is for %d", spoolText(s), noteText(n), impl.SpoolMany(got))
		}
		if ok {
			grown[n.Kind]++
		}
	}
	notes := goodNotes()
	for _, s := range []impl.Spool{{}, {Last: impl.IdMax}, oneSpool(), manyItems(impl.SpoolMax, 1), manyItems(1, impl.IdMax), manyItems(2, impl.IdMax-2)} {
		for _, n := range notes {
			check(s, n)
		}
	}
	eachWaiting(func(s impl.Spool, at int, to int) {
		id, a := s.Items[at].Id, s.Items[at].To[to].Addr
		check(s, doneNote(id, a))
		check(s, laterNote(id, a, 0))
		check(s, laterNote(id, a, impl.TimeMax-3))
		check(s, laterNote(id, a, impl.TimeMax))
	})
	if len(grown) != 3 {
		t.Errorf("notes were done: %v", grown)
	}
}

func TestNoteDo(t *testing.T) {
	s, ok := impl.NoteDo(impl.Spool{}, addNote(letter(), 3))
	if want := spoolOf(1, impl.Item{Id: 1, From: eve, To: []impl.Rcpt{rcpt(ann, 0, 3), rcpt(bob, 0, 3)}, Body: []string{"hi", ".x"}}); !ok || !sameSpool(s, want) {
		t.Errorf("add: %s, %v", spoolText(s), ok)
	}
	s, ok = impl.NoteDo(s, laterNote(1, bob, 10))
	if !ok || s.Items[0].To[0] != rcpt(ann, 0, 3) || s.Items[0].To[1] != rcpt(bob, 1, 12) {
		t.Errorf("later: %s, %v", spoolText(s), ok)
	}
	s, ok = impl.NoteDo(s, doneNote(1, ann))
	if !ok || len(s.Items) != 1 || len(s.Items[0].To) != 1 || s.Items[0].To[0].Addr != bob {
		t.Errorf("done: %s, %v", spoolText(s), ok)
	}
	s, ok = impl.NoteDo(s, doneNote(1, bob))
	if !ok || !sameSpool(s, spoolOf(1)) {
		t.Errorf("the last one: %s, %v", spoolText(s), ok)
	}
}

func TestNoteDoOfInvalidArguments(t *testing.T) {
	for _, n := range badNotes() {
		for _, s := range []impl.Spool{{}, oneSpool(), manyItems(impl.SpoolMax, 1)} {
			if got, ok := impl.NoteDo(s, n); ok || !sameSpool(got, s) {
				t.Errorf("NoteDo(%s, %s) = %s, %v", spoolText(s), noteText(n), spoolText(got), ok)
			}
		}
	}
	for _, s := range badSpools() {
		for _, n := range []impl.Note{addNote(letter(), 3), doneNote(1, ann), laterNote(1, ann, 3), {}, doneNote(0, ann)} {
			if got, ok := impl.NoteDo(s, n); ok || !sameSpool(got, impl.Spool{}) {
				t.Errorf("NoteDo(%s, %s) = %s, %v", spoolText(s), noteText(n), spoolText(got), ok)
			}
		}
	}
}

// Promise 31.
func TestAppendedNoteIsPerformed(t *testing.T) {
	j := ""
	for i, n := range story() {
		before, _ := impl.JourRead(j)
		want, _ := impl.NoteDo(before, n)
		got, ok := impl.JourAdd(j, n)
		if !ok || got != j+recordOf(impl.NotePut(n)) {
			t.Errorf("JourAdd(%q, %s) = %q, %v", j, noteText(n), got, ok)
		}
		checkRead(t, got, want, len(got))
		checkRead(t, got, spoolAfter(t, story()[:i+1]), len(got))
		j = got
	}
	if whole, _ := journalOf(story()); j != whole {
		t.Errorf("the journal is %q", j)
	}
	for _, n := range goodNotes() {
		if n.Kind == impl.NoteAdd {
			got, ok := impl.JourAdd(j, n)
			want, _ := impl.NoteDo(spoolAfter(t, story()), n)
			if !ok {
				t.Errorf("JourAdd(%s) fails", noteText(n))
			}
			checkRead(t, got, want, len(got))
		}
	}
}

func TestJournalText(t *testing.T) {
	j, ok := impl.JourAdd("", addNote(impl.Mail{To: []impl.Addr{ann}}, 3))
	if want := "38 4168992057 add 3\nfrom <>\r\nto <ann@one.org>\r\n\r\n.\r\n;"; !ok || j != want {
		t.Errorf("JourAdd = %q, %v", j, ok)
	}
	checkRead(t, "", impl.Spool{}, 0)
}

func TestJourAddFails(t *testing.T) {
	whole, _ := journalOf(story())
	check := func(j string, n impl.Note) {
		t.Helper()
		if got, ok := impl.JourAdd(j, n); ok || got != j {
			t.Errorf("JourAdd(%.200q, %s) = %.200q, %v", j, noteText(n), got, ok)
		}
		for _, bytes := range []int{-1, 0, 1, 20, 10000} {
			if got := impl.JourTear(j, n, bytes); got != j {
				t.Errorf("JourTear(%.200q, %s, %d) = %.200q", j, noteText(n), bytes, got)
			}
		}
	}
	for _, n := range append(badNotes(), doneNote(1, ann), doneNote(3, cat), laterNote(2, cat, 3), laterNote(3, ann, impl.TimeMax-1), doneNote(4, ann)) {
		check(whole, n)
	}
	for _, n := range append(badNotes(), doneNote(1, ann), laterNote(1, ann, 3)) {
		check("", n)
	}
	for _, rest := range []string{"x", " ", ";", "0", "9 ", "\n", recordOf("x"), recordOf("done 1 <ann@one.org>"), recordOf("done 0 <a@x>"), recordOf("")} {
		check(whole+rest, addNote(letter(), 3))
		check(rest, addNote(letter(), 3))
		check(rest+whole, addNote(letter(), 3))
	}
	full := ""
	for i := range impl.SpoolMax {
		full, _ = impl.JourAdd(full, addNote(letter(), i))
	}
	checkRead(t, full, fullSpool(), len(full))
	check(full, addNote(letter(), 3))
}

// fullSpool is letter SpoolMax times, at the times from 0 on.
func fullSpool() impl.Spool {
	s := impl.Spool{Last: impl.SpoolMax}
	for i := range impl.SpoolMax {
		x := impl.Item{Id: i + 1, From: eve, To: []impl.Rcpt{rcpt(ann, 0, i), rcpt(bob, 0, i)}, Body: []string{"hi", ".x"}}
		s.Items = append(s.Items, x)
	}
	return s
}

// TestNoteThatCannotBeDone is about a record that is complete and correct, and whose note fails: reading stops in front of it.
func TestNoteThatCannotBeDone(t *testing.T) {
	notes := story()
	j, ends := journalOf(notes)
	for i := range len(notes) + 1 {
		for _, n := range []impl.Note{doneNote(1, cat), doneNote(9, ann), laterNote(1, eve, 3), laterNote(impl.IdMax, ann, 3), laterNote(1, ann, impl.TimeMax)} {
			bad := recordOf(impl.NotePut(n))
			checkRead(t, j[:ends[i]]+bad+j[ends[i]:], spoolAfter(t, notes[:i]), ends[i])
		}
	}
	s := fullSpool()
	full := strings.Builder{}
	for i := range impl.SpoolMax {
		full.WriteString(recordOf(impl.NotePut(addNote(letter(), i))))
	}
	more := recordOf(impl.NotePut(addNote(letter(), 5)))
	checkRead(t, full.String()+more, s, full.Len())
	checkRead(t, full.String()+more+recordOf("done 1 <ann@one.org>"), s, full.Len())
	often := []impl.Note{addNote(letter(), 0), laterNote(1, bob, 0), laterNote(1, bob, 0), laterNote(1, bob, 0), laterNote(1, bob, 0), doneNote(1, bob)}
	j, ends = journalOf(often)
	checkRead(t, j, spoolAfter(t, often[:4]), ends[4])
}

// Promise 32.
func TestTornRecordIsIgnored(t *testing.T) {
	notes := story()
	j, ends := journalOf(notes)
	for i, n := range notes {
		old, record := j[:ends[i]], j[ends[i]:ends[i+1]]
		before, after := spoolAfter(t, notes[:i]), spoolAfter(t, notes[:i+1])
		for bytes := -2; bytes < len(record)+3; bytes++ {
			torn := impl.JourTear(old, n, bytes)
			if want := old + record[:min(max(bytes, 0), len(record))]; torn != want {
				t.Errorf("JourTear(%q, %s, %d) = %q", old, noteText(n), bytes, torn)
			}
			if bytes < len(record) {
				checkRead(t, torn, before, len(old))
			} else {
				checkRead(t, torn, after, ends[i+1])
			}
		}
		for _, bytes := range []int{-1 << 63, 1<<63 - 1} {
			want := map[bool]string{true: old, false: old + record}[bytes < 0]
			if torn := impl.JourTear(old, n, bytes); torn != want {
				t.Errorf("JourTear(%q, %s, %d) = %q", old, noteText(n), bytes, torn)
			}
		}
	}
}

// Promise 33.
func TestReadingIsStable(t *testing.T) {
	notes := story()
	j, ends := journalOf(notes)
	for cut := range len(j) + 1 {
		whole := 0
		for ends[min(whole+1, len(notes))] <= cut && whole < len(notes) {
			whole++
		}
		want := spoolAfter(t, notes[:whole])
		for _, rest := range []string{"", "x", "\x00", "0 0 ;", " "} {
			checkRead(t, j[:cut]+rest, want, ends[whole])
		}
		checkRead(t, j[:ends[whole]], want, ends[whole])
		checkRead(t, j[:ends[whole]]+"x", want, ends[whole])
	}
}

func TestChangedRecords(t *testing.T) {
	notes := story()
	j, ends := journalOf(notes)
	for _, i := range []int{0, 1, 3} {
		before, old, record := spoolAfter(t, notes[:i]), j[:ends[i]], j[ends[i]:ends[i+1]]
		eachEdit(record, "0123456789 ;-+x\n\x00", func(s string) {
			// One that is whole still is not changed by what is put behind it.
			if !strings.HasPrefix(s, record) {
				checkRead(t, old+s+j[ends[i+1]:], before, ends[i])
			}
		})
	}
}

func TestRecordsThatAreNotCorrect(t *testing.T) {
	note := "done 1 <ann@one.org>"
	sum := fmt.Sprint(crc32.ChecksumIEEE([]byte(note)))
	old := recordOf(impl.NotePut(addNote(letter(), 3)))
	before, after := spoolAfter(t, []impl.Note{addNote(letter(), 3)}), spoolAfter(t, []impl.Note{addNote(letter(), 3), doneNote(1, ann)})
	good := "20 " + sum + " " + note + ";"
	checkRead(t, old+good, after, len(old+good))
	bad := []string{
		"19 " + sum + " " + note + ";", "21 " + sum + " " + note + ";", "020 " + sum + " " + note + ";", "+20 " + sum + " " + note + ";", "-20 " + sum + " " + note + ";",
		"0 " + sum + " " + note + ";", " " + sum + " " + note + ";", "x " + sum + " " + note + ";", "2 0 " + sum + " " + note + ";", "99999999999999999999 " + sum + " " + note + ";",
		"9223372036854775807 " + sum + " " + note + ";", "-9223372036854775808 " + sum + " " + note + ";", "18446744073709551636 " + sum + " " + note + ";", "1e1 " + sum + " " + note + ";",
		"20 0" + sum + " " + note + ";", "20 +" + sum + " " + note + ";", "20 -" + sum + " " + note + ";", "20 0 " + note + ";", "20  " + note + ";", "20 " + note + ";", "20 " + sum + note + ";",
		"20 " + sum + "0 " + note + ";", "20 1" + sum + " " + note + ";", "20  " + sum + " " + note + ";", "20 " + sum + "  " + note + ";", "20\n" + sum + " " + note + ";", "20 " + sum + "\n" + note + ";",
		"20 " + sum + " " + note, "20 " + sum + " " + note + ",", "20 " + sum + " " + note + " ;", "20 " + sum + " " + note + "\n;", " 20 " + sum + " " + note + ";", ";20 " + sum + " " + note + ";",
		"20 " + fmt.Sprint(int64(crc32.ChecksumIEEE([]byte(note)))+1<<32) + " " + note + ";", "20 " + fmt.Sprint(int64(crc32.ChecksumIEEE([]byte(note)))-1<<32) + " " + note + ";",
		"20 " + sum + " done 1 <bob@two.org>;", "20;" + sum + ";" + note + ";", note + ";", note, "20", "20 ", "20 " + sum, "20 " + sum + " ",
	}
	for _, text := range []string{"", "x", "done 01 <ann@one.org>", "done 1 <ann@one.org> ", "done 1  <ann@one.org>", "done 1 <>", "done 0 <ann@one.org>", "later 1 <ann@one.org> 03", "later 1 <ann@one.org>", "add 3\n", lineOf(5000)} {
		bad = append(bad, recordOf(text))
	}
	for _, s := range bad {
		for _, rest := range []string{"", good, "x", strings.Repeat("x", 1000)} {
			checkRead(t, old+s+rest, before, len(old))
		}
		checkRead(t, s, impl.Spool{}, 0)
	}
}

// longJournal is a journal that is 300 to 400 bytes shorter than JourMax, and its spool, which has one item.
func longJournal(t *testing.T) (string, impl.Spool) {
	t.Helper()
	notes := []impl.Note{addNote(impl.Mail{To: []impl.Addr{ann}}, 0)}
	j, _ := journalOf(notes)
	for id := 2; len(j) < impl.JourMax-400; id++ {
		more := []impl.Note{addNote(impl.Mail{To: []impl.Addr{eve}}, 0), doneNote(id, eve)}
		notes = append(notes, more...)
		text, _ := journalOf(more)
		j += text
	}
	if len(j) > impl.JourMax-300 {
		t.Fatalf("the journal has %d bytes", len(j))
	}
	return j, spoolAfter(t, notes)
}

// noteOfSize is a note whose record has so many bytes.
func noteOfSize(t *testing.T, size int) impl.Note {
	t.Helper()
	for n := range 8 * impl.LineMax {
		var body []string
		for left := n; left > 0; left -= impl.LineMax {
			body = append(body, lineOf(min(left, impl.LineMax)))
		}
		for now := range 10 {
			if x := addNote(impl.Mail{To: []impl.Addr{bob}, Body: body}, now); len(recordOf(impl.NotePut(x))) == size {
				return x
			}
		}
	}
	t.Fatalf("no record has %d bytes", size)
	return impl.Note{}
}

func TestLimitOfJournals(t *testing.T) {
	j, before := longJournal(t)
	checkRead(t, j, before, len(j))
	for more := -2; more < 3; more++ {
		size := impl.JourMax - len(j) + more
		n := noteOfSize(t, size)
		whole := j + recordOf(impl.NotePut(n))
		after, _ := impl.NoteDo(before, n)
		got, ok := impl.JourAdd(j, n)
		if more > 0 {
			if ok || got != j || impl.JourTear(j, n, size) != j || impl.JourTear(j, n, 1) != j {
				t.Errorf("JourAdd to %d bytes: %d, %v", len(whole), len(got), ok)
			}
			checkRead(t, whole, impl.Spool{}, 0)
			continue
		}
		if !ok || got != whole || impl.JourTear(j, n, size) != whole || impl.JourTear(j, n, size-1) != whole[:len(whole)-1] {
			t.Errorf("JourAdd to %d bytes: %d, %v", len(whole), len(got), ok)
		}
		checkRead(t, whole, after, len(whole))
		padded := whole + strings.Repeat("x", -more)
		checkRead(t, padded, after, len(whole))
		checkRead(t, padded+"x", impl.Spool{}, 0)
		if again, twice := impl.JourAdd(padded+"x", doneNote(1, ann)); twice || again != padded+"x" {
			t.Errorf("JourAdd to a journal of more than JourMax bytes: %d, %v", len(again), twice)
		}
		if torn := impl.JourTear(padded+"x", doneNote(1, ann), 5); torn != padded+"x" {
			t.Errorf("JourTear of a journal of more than JourMax bytes: %d", len(torn))
		}
	}
	checkRead(t, strings.Repeat("x", 100000), impl.Spool{}, 0)
}

func TestIdsOfAJournal(t *testing.T) {
	m := impl.Mail{To: []impl.Addr{ann}}
	var notes []impl.Note
	for id := 1; id <= 90; id++ {
		notes = append(notes, addNote(m, 0), doneNote(id, ann))
	}
	j, _ := journalOf(notes)
	checkRead(t, j, spoolOf(90), len(j))
	if slices.ContainsFunc(notes, func(n impl.Note) bool { return !impl.NoteOk(n) }) || len(j) > impl.JourMax {
		t.Errorf("the journal has %d bytes", len(j))
	}
}
