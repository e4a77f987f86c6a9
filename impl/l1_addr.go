package impl

import (
	"cmp"
	"strings"
)

// Limits of words and domains.
const (
	WordMax   = 8
	LabelsMax = 3
)

// Addr is a user at a domain; nobody's, if both are empty.
type Addr struct {
	User   string
	Domain string
}

const nullText = "<>"

// domain is a text in the place of a domain; valid tells whether it is one.
type domain string

func (d domain) valid() bool {
	// One part more than allowed is enough to see that there are too many.
	labels := strings.SplitN(string(d), ".", LabelsMax+1)
	if len(labels) > LabelsMax {
		return false
	}
	for _, label := range labels {
		if !isLabel(label) {
			return false
		}
	}
	return true
}

func (d domain) within(end domain) bool {
	return d == end || strings.HasSuffix(string(d), "."+string(end))
}

func isLabel(s string) bool {
	if len(s) < 1 || len(s) > WordMax {
		return false
	}
	for i := range len(s) {
		if !isLabelByte(s[i]) {
			return false
		}
	}
	return true
}

func isLabelByte(b byte) bool {
	return 'a' <= b && b <= 'z' || '0' <= b && b <= '9'
}

func (a Addr) isNull() bool {
	return a == Addr{}
}

// isSender tells whether a may stand as the sender of a message: bounces come from the null address.
func (a Addr) isSender() bool {
	return a.isNull() || AddrOk(a)
}

// compare is negative if a comes before b, and positive if it comes behind b.
func (a Addr) compare(b Addr) int {
	return cmp.Or(strings.Compare(a.Domain, b.Domain), strings.Compare(a.User, b.User))
}

// DomainOk reports whether s is a domain.
func DomainOk(s string) bool {
	return domain(s).valid()
}

// AddrOk reports whether a is an address; the null address is none.
func AddrOk(a Addr) bool {
	return isLabel(a.User) && DomainOk(a.Domain)
}

// AddrPut returns the text of an address or of the null address, and "" for anything else.
func AddrPut(a Addr) string {
	if a.isNull() {
		return nullText
	}
	if !AddrOk(a) {
		return ""
	}
	return "<" + a.User + "@" + a.Domain + ">"
}

// AddrGet is the inverse of AddrPut; it returns false for every other text.
func AddrGet(s string) (Addr, bool) {
	if s == nullText {
		return Addr{}, true
	}
	inner, opened := strings.CutPrefix(s, "<")
	inner, closed := strings.CutSuffix(inner, ">")
	user, place, found := strings.Cut(inner, "@")
	a := Addr{User: user, Domain: place}
	if !opened || !closed || !found || !AddrOk(a) {
		return Addr{}, false
	}
	return a, true
}

// DomainIn reports whether the domain s is the domain end or lies within it.
func DomainIn(s string, end string) bool {
	return DomainOk(s) && DomainOk(end) && domain(s).within(domain(end))
}
