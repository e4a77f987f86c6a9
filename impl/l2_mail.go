package impl

import (
	"iter"
	"slices"
	"strings"
)

// Limits of mails.
const (
	LineMax = 40
	BodyMax = 12
	ToMax   = 4
	FeedMax = 800
)

// Mail is from whom, to whom, and its lines.
type Mail struct {
	From Addr
	To   []Addr
	Body []string
}

const (
	lineEnd  = "\r\n"
	bodyEnd  = "."
	hopMark  = "Hop: "
	fromMark = "from "
	toMark   = "to "
)

// wireWriter writes text as it goes from host to host: in lines that CR LF ends.
type wireWriter struct {
	strings.Builder
}

func (w *wireWriter) line(s string) {
	w.WriteString(s)
	w.WriteString(lineEnd)
}

func (w *wireWriter) body(list []string) {
	for _, s := range list {
		if strings.HasPrefix(s, ".") {
			w.WriteString(".")
		}
		w.line(s)
	}
	w.line(bodyEnd)
}

func isLine(s string) bool {
	if len(s) > LineMax {
		return false
	}
	for i := range len(s) {
		if s[i] < 32 || s[i] > 126 {
			return false
		}
	}
	return true
}

func isBody(list []string) bool {
	if len(list) > BodyMax {
		return false
	}
	for _, s := range list {
		if !isLine(s) {
			return false
		}
	}
	return true
}

func areRecipients(list []Addr) bool {
	if len(list) < 1 || len(list) > ToMax {
		return false
	}
	for i, a := range list {
		if !AddrOk(a) || slices.Contains(list[:i], a) {
			return false
		}
	}
	return true
}

func (m Mail) clone() Mail {
	m.To = slices.Clone(m.To)
	m.Body = slices.Clone(m.Body)
	return m
}

func isHop(line string) bool {
	name, marked := strings.CutPrefix(line, hopMark)
	return marked && DomainOk(name)
}

// endedLines yields each line of s that a CR LF ends, without it.
func endedLines(s string) iter.Seq[string] {
	return func(yield func(string) bool) {
		rest := s
		for {
			line, behind, ended := strings.Cut(rest, lineEnd)
			if !ended || !yield(line) {
				return
			}
			rest = behind
		}
	}
}

// undot takes the additional dot from a line, and returns false for a line that DotPut never writes in a body.
func undot(line string) (string, bool) {
	if !strings.HasPrefix(line, ".") {
		return line, true
	}
	return line[1:], strings.HasPrefix(line, "..")
}

func markedAddr(line string, mark string) (Addr, bool) {
	text, marked := strings.CutPrefix(line, mark)
	if !marked {
		return Addr{}, false
	}
	return AddrGet(text)
}

// headGet reads the sender and the recipients of a message; it leaves to MailOk whether they fit together.
func headGet(lines []string) (Mail, bool) {
	from, ok := markedAddr(lines[0], fromMark)
	if !ok {
		return Mail{}, false
	}
	m := Mail{From: from}
	for _, line := range lines[1:] {
		to, ok := markedAddr(line, toMark)
		if !ok {
			return Mail{}, false
		}
		m.To = append(m.To, to)
	}
	return m, true
}

// MailOk reports whether m is a valid message.
func MailOk(m Mail) bool {
	return m.From.isSender() && areRecipients(m.To) && isBody(m.Body)
}

// DotPut returns the transparent form of a body, and "" if list is not one.
func DotPut(list []string) string {
	if !isBody(list) {
		return ""
	}
	var w wireWriter
	w.body(list)
	return w.String()
}

// LinesOf splits s at each CR LF into lines and what is behind the last of them.
func LinesOf(s string) ([]string, string) {
	if len(s) > FeedMax {
		return nil, ""
	}
	var lines []string
	end := 0
	for line := range endedLines(s) {
		lines = append(lines, line)
		end += len(line) + len(lineEnd)
	}
	return lines, s[end:]
}

// DotGet is the inverse of DotPut; it returns false for every other text.
func DotGet(s string) ([]string, bool) {
	lines, rest := LinesOf(s)
	last := len(lines) - 1
	if last < 0 || lines[last] != bodyEnd || rest != "" {
		return nil, false
	}
	list := lines[:last]
	for i, line := range list {
		plain, ok := undot(line)
		if !ok {
			return nil, false
		}
		list[i] = plain
	}
	if !isBody(list) {
		return nil, false
	}
	return list, true
}

// HopsOf returns the number of trace lines at the beginning of a body, and -1 if list is not a body.
func HopsOf(list []string) int {
	if !isBody(list) {
		return -1
	}
	hops := 0
	for hops < len(list) && isHop(list[hops]) {
		hops++
	}
	return hops
}

// HopPut returns a body with the trace line of a host in front.
func HopPut(name string, list []string) ([]string, bool) {
	if !DomainOk(name) || !isBody(list) || len(list) == BodyMax {
		return nil, false
	}
	return append([]string{hopMark + name}, list...), true
}

// MailPut returns the text of a message, and "" if m is not valid.
func MailPut(m Mail) string {
	if !MailOk(m) {
		return ""
	}
	var w wireWriter
	w.line(fromMark + AddrPut(m.From))
	for _, a := range m.To {
		w.line(toMark + AddrPut(a))
	}
	w.line("")
	w.body(m.Body)
	return w.String()
}

// MailGet is the inverse of MailPut; it returns false for every other text.
func MailGet(s string) (Mail, bool) {
	if len(s) > FeedMax {
		return Mail{}, false
	}
	// No line of the head is empty, so the first empty line is the one behind it.
	head, text, found := strings.Cut(s, lineEnd+lineEnd)
	m, headOk := headGet(strings.Split(head, lineEnd))
	body, bodyOk := DotGet(text)
	m.Body = body
	if !found || !headOk || !bodyOk || !MailOk(m) {
		return Mail{}, false
	}
	return m, true
}
