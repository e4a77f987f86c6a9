package tests

import (
	"slices"
	"strings"
	"testing"

	"loop.example/satchel/impl"
)

const crlf = "\r\n"

// eachText calls f for every text of at most most of the parts, so that the small cases are all tried.
func eachText(parts []string, most int, f func(s string)) {
	var grow func(s string, left int)
	grow = func(s string, left int) {
		f(s)
		if left == 0 {
			return
		}
		for _, p := range parts {
			grow(s+p, left-1)
		}
	}
	grow("", most)
}

// eachEdit calls f for every text that one byte added, removed or replaced makes of s.
func eachEdit(s string, bytes string, f func(s string)) {
	for i := range len(s) + 1 {
		for j := range len(bytes) {
			f(s[:i] + bytes[j:j+1] + s[i:])
		}
		if i == len(s) {
			break
		}
		f(s[:i] + s[i+1:])
		for j := range len(bytes) {
			f(s[:i] + bytes[j:j+1] + s[i+1:])
		}
	}
}

// roomy is a copy of list with elements in its spare capacity, to see whether a function writes there.
func roomy[T any](list []T, spare ...T) []T {
	all := append(slices.Clone(list), spare...)
	return all[:len(list)]
}

func sameMail(a impl.Mail, b impl.Mail) bool {
	return a.From == b.From && slices.Equal(a.To, b.To) && slices.Equal(a.Body, b.Body)
}

func isZeroMail(m impl.Mail) bool {
	return m.From == impl.Addr{} && len(m.To) == 0 && len(m.Body) == 0
}

// mustNotPanic makes a panic a failure that names the argument.
func mustNotPanic(t *testing.T, name string, f func()) {
	t.Helper()
	defer func() {
		if r := recover(); r != nil {
			t.Errorf("%s panics: %v", name, r)
		}
	}()
	f()
}

func lineOf(n int) string {
	return strings.Repeat("x", n)
}

func bodyOf(n int) []string {
	return slices.Repeat([]string{"x"}, n)
}
