package tests

import (
	"slices"
	"strings"
	"testing"

	"loop.example/satchel/impl"
)

// These tests show the general conventions of the specification at some inputs: a function answers for every
// argument, keeps nothing from call to call, writes into no argument, and gives out memory of its own.

func oddTexts() []string {
	huge := strings.Repeat("\r\n", 100000)
	list := []string{"", "\x00", "\xff\xfe", "\r", "\n", huge, "<" + huge + ">", "from <>" + huge, "." + huge, strings.Repeat(".", 100000)}
	for _, more := range [][]string{goodDomains, badDomains, badAddrTexts} {
		list = append(list, more...)
	}
	return list
}

func TestFunctionsOfTextsAnswer(t *testing.T) {
	for _, s := range oddTexts() {
		mustNotPanic(t, s, func() {
			impl.DomainOk(s)
			impl.DomainIn(s, s)
			impl.DomainIn("a", s)
			impl.DomainIn(s, "a")
			impl.AddrGet(s)
			impl.LinesOf(s)
			impl.DotGet(s)
			impl.MailGet(s)
			impl.AddrOk(impl.Addr{User: s, Domain: s})
			impl.AddrPut(impl.Addr{User: s, Domain: s})
			impl.HopPut(s, []string{s})
			impl.HopsOf([]string{s})
			impl.DotPut([]string{s})
			impl.MailPut(impl.Mail{To: []impl.Addr{{User: s, Domain: s}}, Body: []string{s}})
		})
	}
}

func TestFunctionsOfMessagesAnswer(t *testing.T) {
	answer := func(m impl.Mail) {
		mustNotPanic(t, "a function of a message", func() {
			impl.MailOk(m)
			impl.MailPut(m)
			impl.DotPut(m.Body)
			impl.HopsOf(m.Body)
			impl.HopPut("a", m.Body)
		})
	}
	eachGoodMail(answer)
	eachBadMail(answer)
	answer(impl.Mail{To: make([]impl.Addr, 100000), Body: make([]string, 100000)})
}

func TestNoArgumentIsWrittenTo(t *testing.T) {
	eachGoodMail(func(m impl.Mail) {
		m.To, m.Body = roomy(m.To, ann, bob), roomy(m.Body, "spare", ".spare")
		to, body := slices.Clone(m.To[:cap(m.To)]), slices.Clone(m.Body[:cap(m.Body)])
		impl.MailOk(m)
		impl.MailPut(m)
		impl.DotPut(m.Body)
		impl.HopsOf(m.Body)
		impl.HopPut("one.org", m.Body)
		if !slices.Equal(m.To[:cap(m.To)], to) || !slices.Equal(m.Body[:cap(m.Body)], body) {
			t.Errorf("an argument was changed: %q", m)
		}
	})
}

func TestHopPutGivesMemoryOfItsOwn(t *testing.T) {
	list := roomy([]string{"a", "b"}, "spare", "spare")
	whole := slices.Clone(list[:cap(list)])
	got, _ := impl.HopPut("one.org", list)
	again, _ := impl.HopPut("one.org", list)
	overwrite(got, "changed")
	if !slices.Equal(list[:cap(list)], whole) {
		t.Errorf("the argument changed with the result: %q", list[:cap(list)])
	}
	if !slices.Equal(again, []string{"Hop: one.org", "a", "b"}) {
		t.Errorf("one result changed with another: %q", again)
	}
}

func TestReadersGiveMemoryOfTheirOwn(t *testing.T) {
	text := "from <>\r\nto <ann@one.org>\r\nto <bob@two.org>\r\n\r\nx\r\n..y\r\n.\r\n"
	first, _ := impl.MailGet(text)
	second, _ := impl.MailGet(text)
	overwrite(first.To, eve)
	overwrite(first.Body, "changed")
	if want := (impl.Mail{To: []impl.Addr{ann, bob}, Body: []string{"x", ".y"}}); !sameMail(second, want) {
		t.Errorf("one result changed with another: %q", second)
	}
	list, _ := impl.DotGet("x\r\n..y\r\n.\r\n")
	twin, _ := impl.DotGet("x\r\n..y\r\n.\r\n")
	overwrite(list, "changed")
	if !slices.Equal(twin, []string{"x", ".y"}) {
		t.Errorf("one result changed with another: %q", twin)
	}
	lines, _ := impl.LinesOf("x\r\ny\r\n")
	same, _ := impl.LinesOf("x\r\ny\r\n")
	overwrite(lines, "changed")
	if !slices.Equal(same, []string{"x", "y"}) {
		t.Errorf("one result changed with another: %q", same)
	}
}

// overwrite changes list and its spare capacity.
func overwrite[T any](list []T, x T) {
	list = list[:cap(list)]
	for i := range list {
		list[i] = x
	}
}
