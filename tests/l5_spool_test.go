package tests

import (
	"fmt"
	"slices"
	"testing"

	"loop.example/satchel/impl"
)

func rcpt(a impl.Addr, tries int, next int) impl.Rcpt {
	return impl.Rcpt{Addr: a, Tries: tries, Next: next}
}

func item(id int, to ...impl.Rcpt) impl.Item {
	return impl.Item{Id: id, From: eve, To: to, Body: []string{"Hop: a", ".x"}}
}

func spoolOf(last int, items ...impl.Item) impl.Spool {
	return impl.Spool{Last: last, Items: items}
}

// manyItems is a spool of n items for one recipient each; their Ids begin with first, and the times of their next attempts with 0.
func manyItems(n int, first int) impl.Spool {
	s := impl.Spool{Last: first + n - 1}
	for i := range n {
		s.Items = append(s.Items, item(first+i, rcpt(ann, 0, i)))
	}
	return s
}

// oneSpool has items with gaps between their Ids, recipients in different items, and recipients that were tried differently often.
func oneSpool() impl.Spool {
	bounce := impl.Item{Id: 7, To: []impl.Rcpt{rcpt(eve, 3, impl.TimeMax)}}
	return spoolOf(9,
		item(2, rcpt(ann, 0, 5)),
		item(4, rcpt(bob, 1, 30), rcpt(ann, 2, 20), rcpt(cat, 0, 10), rcpt(dan, 3, 40)),
		bounce,
		item(8, rcpt(cat, 0, 0), rcpt(bob, 0, 6)))
}

func goodSpools() []impl.Spool {
	list := []impl.Spool{
		{}, {Items: []impl.Item{}}, {Last: 1}, {Last: impl.IdMax}, {Last: impl.IdMax - 1}, oneSpool(),
		manyItems(1, 1), manyItems(1, impl.IdMax), manyItems(2, impl.IdMax-2), manyItems(impl.SpoolMax-1, 1), manyItems(impl.SpoolMax, 1),
		manyItems(impl.SpoolMax-1, impl.IdMax-impl.SpoolMax+1), manyItems(impl.SpoolMax, impl.IdMax-impl.SpoolMax+1),
		spoolOf(impl.IdMax, item(1, rcpt(ann, 0, 0)), item(impl.IdMax, rcpt(ann, impl.TriesMax-1, impl.TimeMax))),
	}
	eachGoodMail(func(m impl.Mail) {
		x := impl.Item{Id: 3, From: m.From, Body: m.Body}
		for i, a := range m.To {
			x.To = append(x.To, rcpt(a, i, 10*i))
		}
		list = append(list, spoolOf(3, item(1, rcpt(zoe, 0, 0)), x))
	})
	return list
}

func badItems() []impl.Item {
	list := []impl.Item{
		{}, item(0, rcpt(ann, 0, 0)), item(-1, rcpt(ann, 0, 0)), item(4, rcpt(ann, 0, 0)), item(-1<<63, rcpt(ann, 0, 0)), item(3),
		item(3, rcpt(ann, -1, 0)), item(3, rcpt(ann, impl.TriesMax, 0)), item(3, rcpt(ann, 1<<40, 0)), item(3, rcpt(ann, 0, -1)),
		item(3, rcpt(ann, 0, impl.TimeMax+1)), item(3, rcpt(ann, 0, 1<<40)), item(3, rcpt(bob, 0, 0), rcpt(ann, -1, 0)),
		item(3, rcpt(bob, 0, 0), rcpt(ann, 0, -1)), item(3, rcpt(ann, 0, 0), rcpt(bob, 0, 0), rcpt(ann, 1, 1)),
	}
	eachBadMail(func(m impl.Mail) {
		x := impl.Item{Id: 3, From: m.From, Body: m.Body}
		for _, a := range m.To {
			x.To = append(x.To, rcpt(a, 0, 0))
		}
		list = append(list, x)
	})
	return list
}

func badSpools() []impl.Spool {
	list := []impl.Spool{
		{Last: -1}, {Last: impl.IdMax + 1}, {Last: -1 << 63}, {Last: 1 << 40}, manyItems(impl.SpoolMax+1, 1), manyItems(900, 1),
		spoolOf(0, item(1, rcpt(ann, 0, 0))), spoolOf(impl.IdMax, item(impl.IdMax+1, rcpt(ann, 0, 0))), manyItems(2, impl.IdMax),
		spoolOf(5, item(3, rcpt(ann, 0, 0)), item(3, rcpt(bob, 0, 0))), spoolOf(5, item(3, rcpt(ann, 0, 0)), item(2, rcpt(ann, 0, 0))),
		spoolOf(5, item(1, rcpt(ann, 0, 0)), item(4, rcpt(ann, 0, 0)), item(2, rcpt(ann, 0, 0))),
		spoolOf(5, item(1, rcpt(ann, 0, 0)), item(6, rcpt(ann, 0, 0))), spoolOf(5, item(6, rcpt(ann, 0, 0)), item(5, rcpt(ann, 0, 0))),
	}
	for _, x := range badItems() {
		list = append(list, spoolOf(3, x), spoolOf(3, item(1, rcpt(ann, 0, 0)), x), spoolOf(9, x, item(9, rcpt(ann, 0, 0))))
	}
	// An Id of 4 is wrong in the first two of these only.
	return slices.DeleteFunc(list, func(s impl.Spool) bool { return s.Last == 9 && s.Items[0].Id == 4 })
}

func sameItem(a impl.Item, b impl.Item) bool {
	return a.Id == b.Id && a.From == b.From && slices.Equal(a.To, b.To) && slices.Equal(a.Body, b.Body)
}

func sameSpool(a impl.Spool, b impl.Spool) bool {
	return a.Last == b.Last && slices.EqualFunc(a.Items, b.Items, sameItem)
}

func copyOfSpool(s impl.Spool) impl.Spool {
	s.Items = slices.Clone(s.Items)
	for i, x := range s.Items {
		s.Items[i].To, s.Items[i].Body = slices.Clone(x.To), slices.Clone(x.Body)
	}
	return s
}

func spoolText(s impl.Spool) string {
	return fmt.Sprintf("%.400s", fmt.Sprintf("%+v", s))
}

// eachWaiting calls f for every recipient of every item of every good spool.
func eachWaiting(f func(s impl.Spool, at int, to int)) {
	for _, s := range goodSpools() {
		for at, x := range s.Items {
			for to := range x.To {
				f(s, at, to)
			}
		}
	}
}

func TestSpoolOk(t *testing.T) {
	for _, s := range goodSpools() {
		if !impl.SpoolOk(s) {
			t.Errorf("%s is valid", spoolText(s))
		}
	}
	for _, s := range badSpools() {
		if impl.SpoolOk(s) {
			t.Errorf("%s is not valid", spoolText(s))
		}
	}
}

func TestLimitsOfSpools(t *testing.T) {
	for n := range impl.SpoolMax + 3 {
		if impl.SpoolOk(manyItems(n, 1)) != (n <= impl.SpoolMax) {
			t.Errorf("a spool of %d items", n)
		}
	}
	for _, last := range []int{-2, -1, 0, 1, 500, 998, 999, 1000, 1001} {
		want := last >= 0 && last <= impl.IdMax
		if impl.SpoolOk(spoolOf(last)) != want || last > 0 && impl.SpoolOk(manyItems(1, last)) != want {
			t.Errorf("an Id of %d", last)
		}
	}
	for tries := -2; tries < impl.TriesMax+3; tries++ {
		for _, next := range []int{-2, -1, 0, 1, 5000, 9998, 9999, 10000, 10001} {
			want := tries >= 0 && tries < impl.TriesMax && next >= 0 && next <= impl.TimeMax
			first, second := rcpt(ann, tries, next), rcpt(bob, tries, next)
			if impl.SpoolOk(spoolOf(1, item(1, first))) != want || impl.SpoolOk(spoolOf(1, item(1, rcpt(eve, 0, 0), second))) != want {
				t.Errorf("%d attempts, and the next at %d", tries, next)
			}
		}
	}
	all := []impl.Rcpt{rcpt(ann, 0, 0), rcpt(bob, 0, 0), rcpt(cat, 0, 0), rcpt(dan, 0, 0), rcpt(eve, 0, 0)}
	for n := range len(all) + 1 {
		if impl.SpoolOk(spoolOf(1, item(1, all[:n]...))) != (n >= 1 && n <= impl.ToMax) {
			t.Errorf("an item for %d", n)
		}
	}
}

// Promise 22.
func TestSpooledMessageIsKeptForAllRecipients(t *testing.T) {
	added := 0
	check := func(s impl.Spool, m impl.Mail, now int) {
		x := impl.Item{Id: s.Last + 1, From: m.From, Body: m.Body}
		for _, a := range m.To {
			x.To = append(x.To, rcpt(a, 0, now))
		}
		want, room := copyOfSpool(s), len(s.Items) < impl.SpoolMax && s.Last < impl.IdMax
		if room {
			want.Last, want.Items = x.Id, append(want.Items, x)
			added++
		}
		got, ok := impl.SpoolAdd(s, m, now)
		if ok != room || !sameSpool(got, want) || !impl.SpoolOk(got) {
			t.Errorf("SpoolAdd(%s, %q, %d) = %s, %v", spoolText(s), m, now, spoolText(got), ok)
		}
		if !ok {
			return
		}
		if due := impl.SpoolDue(got, now); len(due) == 0 || due[len(due)-1] != x.Id || slices.Contains(impl.SpoolDue(got, now-1), x.Id) {
			t.Errorf("SpoolAdd(%s, %q, %d) is due: %v", spoolText(s), m, now, due)
		}
		if many := impl.SpoolMany(got); many != impl.SpoolMany(s)+len(m.To) {
			t.Errorf("SpoolAdd(%s, %q, %d) is for %d", spoolText(s), m, now, many)
		}
	}
	for _, s := range goodSpools() {
		for _, now := range []int{0, 1, 77, impl.TimeMax - 1, impl.TimeMax} {
			check(s, letter(), now)
			check(s, impl.Mail{To: longAddrs}, now)
		}
	}
	eachGoodMail(func(m impl.Mail) {
		check(oneSpool(), m, 9)
		check(impl.Spool{}, m, 0)
	})
	if added == 0 {
		t.Error("no message was added")
	}
}

func TestSpoolAddUpToItsLimits(t *testing.T) {
	s, ok := impl.Spool{}, true
	for i := range impl.SpoolMax {
		if s, ok = impl.SpoolAdd(s, letter(), i); !ok || s.Last != i+1 || len(s.Items) != i+1 {
			t.Errorf("message %d: %s, %v", i+1, spoolText(s), ok)
		}
	}
	if got, more := impl.SpoolAdd(s, letter(), 0); more || !sameSpool(got, s) {
		t.Errorf("one more than SpoolMax: %s, %v", spoolText(got), more)
	}
	s, _ = impl.SpoolDone(s, 3, ann)
	if got, more := impl.SpoolAdd(s, letter(), 0); more || !sameSpool(got, s) {
		t.Errorf("the item is for another one still: %s, %v", spoolText(got), more)
	}
	s, _ = impl.SpoolDone(s, 3, bob)
	if s, ok = impl.SpoolAdd(s, letter(), 0); !ok || s.Last != impl.SpoolMax+1 || s.Items[impl.SpoolMax-1].Id != impl.SpoolMax+1 {
		t.Errorf("in the room of another one: %s, %v", spoolText(s), ok)
	}
	s, ok = impl.SpoolAdd(spoolOf(impl.IdMax-1), letter(), 0)
	if !ok || s.Last != impl.IdMax || s.Items[0].Id != impl.IdMax {
		t.Errorf("the last Id: %s, %v", spoolText(s), ok)
	}
	s, _ = impl.SpoolDone(s, impl.IdMax, ann)
	s, _ = impl.SpoolDone(s, impl.IdMax, bob)
	if got, more := impl.SpoolAdd(s, letter(), 0); more || !sameSpool(got, spoolOf(impl.IdMax)) {
		t.Errorf("behind the last Id: %s, %v", spoolText(got), more)
	}
}

func TestSpoolAddOfInvalidArguments(t *testing.T) {
	for _, s := range []impl.Spool{{}, oneSpool(), manyItems(impl.SpoolMax, 1)} {
		for _, now := range []int{-1, impl.TimeMax + 1, 1 << 40, -1 << 63, 1<<63 - 1} {
			if got, ok := impl.SpoolAdd(s, letter(), now); ok || !sameSpool(got, s) {
				t.Errorf("SpoolAdd(%s, %d) = %s, %v", spoolText(s), now, spoolText(got), ok)
			}
		}
		eachBadMail(func(m impl.Mail) {
			if got, ok := impl.SpoolAdd(s, m, 5); ok || !sameSpool(got, s) {
				t.Errorf("SpoolAdd(%s, %.200q) = %s, %v", spoolText(s), m, spoolText(got), ok)
			}
		})
	}
}

// Promise 23.
func TestDeliveredRecipientsAreRemoved(t *testing.T) {
	eachWaiting(func(s impl.Spool, at int, to int) {
		id, a := s.Items[at].Id, s.Items[at].To[to].Addr
		want := copyOfSpool(s)
		want.Items[at].To = slices.Delete(want.Items[at].To, to, to+1)
		if len(want.Items[at].To) == 0 {
			want.Items = slices.Delete(want.Items, at, at+1)
		}
		got, ok := impl.SpoolDone(s, id, a)
		if !ok || !sameSpool(got, want) || !impl.SpoolOk(got) || impl.SpoolMany(got) != impl.SpoolMany(s)-1 {
			t.Errorf("SpoolDone(%s, %d, %v) = %s, %v", spoolText(s), id, a, spoolText(got), ok)
		}
		if again, twice := impl.SpoolDone(got, id, a); twice || !sameSpool(again, want) {
			t.Errorf("SpoolDone(%s, %d, %v) = %s, %v", spoolText(got), id, a, spoolText(again), twice)
		}
	})
}

func TestItemForNobodyIsRemoved(t *testing.T) {
	s := oneSpool()
	for i, a := range []impl.Addr{cat, bob, dan, ann} {
		got, ok := impl.SpoolDone(s, 4, a)
		left := slices.ContainsFunc(got.Items, func(x impl.Item) bool { return x.Id == 4 })
		if !ok || left != (i < 3) || got.Last != 9 {
			t.Errorf("SpoolDone(%s, 4, %v) = %s, %v", spoolText(s), a, spoolText(got), ok)
		}
		s = got
	}
	want := oneSpool()
	want.Items = slices.Delete(want.Items, 1, 2)
	if !sameSpool(s, want) {
		t.Errorf("without item 4: %s", spoolText(s))
	}
	for _, x := range want.Items {
		for _, r := range x.To {
			s, _ = impl.SpoolDone(s, x.Id, r.Addr)
		}
	}
	if !sameSpool(s, spoolOf(9)) || impl.SpoolMany(s) != 0 || len(impl.SpoolDue(s, impl.TimeMax)) != 0 {
		t.Errorf("without items: %s", spoolText(s))
	}
}

// strangers are Ids and addresses that are not those of an item and its recipient in oneSpool.
var strangers = []struct {
	id   int
	addr impl.Addr
}{
	{0, ann}, {-1, ann}, {1, ann}, {3, ann}, {5, ann}, {9, ann}, {10, ann}, {1000, ann}, {-1 << 63, ann}, {1<<63 - 1, ann}, {-2, ann},
	{2, bob}, {2, cat}, {2, dan}, {2, eve}, {4, eve}, {7, ann}, {8, ann}, {8, dan}, {2, impl.Addr{}}, {7, impl.Addr{}}, {2, badAddrs[0]},
	{2, impl.Addr{User: "ann"}}, {2, impl.Addr{Domain: "one.org"}}, {2, impl.Addr{User: "Ann", Domain: "one.org"}}, {2, impl.Addr{User: "one.org", Domain: "ann"}},
}

func TestUnknownRecipients(t *testing.T) {
	s := oneSpool()
	for _, x := range strangers {
		if got, ok := impl.SpoolDone(s, x.id, x.addr); ok || !sameSpool(got, oneSpool()) {
			t.Errorf("SpoolDone(%d, %v) = %s, %v", x.id, x.addr, spoolText(got), ok)
		}
		if got, ok := impl.SpoolLater(s, x.id, x.addr, 5); ok || !sameSpool(got, oneSpool()) {
			t.Errorf("SpoolLater(%d, %v) = %s, %v", x.id, x.addr, spoolText(got), ok)
		}
		if got, ok := impl.SpoolDone(impl.Spool{}, x.id, x.addr); ok || !sameSpool(got, impl.Spool{}) {
			t.Errorf("SpoolDone(%d, %v) of an empty spool = %s, %v", x.id, x.addr, spoolText(got), ok)
		}
		if got, ok := impl.SpoolLater(impl.Spool{}, x.id, x.addr, 5); ok || !sameSpool(got, impl.Spool{}) {
			t.Errorf("SpoolLater(%d, %v) of an empty spool = %s, %v", x.id, x.addr, spoolText(got), ok)
		}
	}
}

// Promise 24.
func TestPostponedRecipientsAreKept(t *testing.T) {
	pauses := []int{2, 4, 8}
	eachWaiting(func(s impl.Spool, at int, to int) {
		id, r := s.Items[at].Id, s.Items[at].To[to]
		for _, now := range []int{0, 1, 500, impl.TimeMax - 9, impl.TimeMax - 8, impl.TimeMax - 7, impl.TimeMax - 4, impl.TimeMax - 3, impl.TimeMax - 2, impl.TimeMax - 1, impl.TimeMax} {
			want := copyOfSpool(s)
			may := r.Tries < impl.TriesMax-1 && now+pauses[r.Tries] <= impl.TimeMax
			if may {
				want.Items[at].To[to] = rcpt(r.Addr, r.Tries+1, now+pauses[r.Tries])
			}
			got, ok := impl.SpoolLater(s, id, r.Addr, now)
			if ok != may || !sameSpool(got, want) || !impl.SpoolOk(got) || impl.SpoolMany(got) != impl.SpoolMany(s) {
				t.Errorf("SpoolLater(%s, %d, %v, %d) = %s, %v", spoolText(s), id, r.Addr, now, spoolText(got), ok)
			}
		}
	})
}

func TestPostponedTooOften(t *testing.T) {
	s, _ := impl.SpoolAdd(impl.Spool{}, letter(), 3)
	now := 3
	for i, next := range []int{5, 9, 17} {
		got, ok := impl.SpoolLater(s, 1, bob, now)
		if want := spoolOf(1, impl.Item{Id: 1, From: eve, To: []impl.Rcpt{rcpt(ann, 0, 3), rcpt(bob, i+1, next)}, Body: []string{"hi", ".x"}}); !ok || !sameSpool(got, want) {
			t.Errorf("attempt %d: %s, %v", i+1, spoolText(got), ok)
		}
		s, now = got, next
	}
	if got, ok := impl.SpoolLater(s, 1, bob, now); ok || !sameSpool(got, s) {
		t.Errorf("attempt %d: %s, %v", impl.TriesMax, spoolText(got), ok)
	}
	if got, ok := impl.SpoolLater(s, 1, ann, now); !ok || got.Items[0].To[0] != rcpt(ann, 1, 19) || got.Items[0].To[1] != rcpt(bob, 3, 17) {
		t.Errorf("another recipient: %s, %v", spoolText(got), ok)
	}
}

func TestPostponedTooFar(t *testing.T) {
	for tries, pause := range []int{2, 4, 8} {
		s := spoolOf(1, item(1, rcpt(ann, tries, 0)))
		if got, ok := impl.SpoolLater(s, 1, ann, impl.TimeMax-pause); !ok || got.Items[0].To[0] != rcpt(ann, tries+1, impl.TimeMax) {
			t.Errorf("up to TimeMax: %s, %v", spoolText(got), ok)
		}
		if got, ok := impl.SpoolLater(s, 1, ann, impl.TimeMax-pause+1); ok || !sameSpool(got, s) {
			t.Errorf("beyond TimeMax: %s, %v", spoolText(got), ok)
		}
	}
	for _, now := range []int{-1, -2, -8, impl.TimeMax + 1, -1 << 63, 1<<63 - 1, 1<<63 - 2} {
		if got, ok := impl.SpoolLater(oneSpool(), 2, ann, now); ok || !sameSpool(got, oneSpool()) {
			t.Errorf("at %d: %s, %v", now, spoolText(got), ok)
		}
	}
}

// Promise 25.
func TestPausesDouble(t *testing.T) {
	pause := impl.PauseFirst
	for tries := 1; tries <= impl.TriesMax; tries++ {
		if got := impl.SpoolPause(tries); got != pause {
			t.Errorf("SpoolPause(%d) = %d, not %d", tries, got, pause)
		}
		pause *= 2
	}
	for _, tries := range []int{0, -1, impl.TriesMax + 1, 63, 64, 65, -1 << 63, 1<<63 - 1} {
		if got := impl.SpoolPause(tries); got != -1 {
			t.Errorf("SpoolPause(%d) = %d", tries, got)
		}
	}
	if impl.SpoolPause(1) != 2 || impl.SpoolPause(4) != 16 {
		t.Errorf("the pauses are from %d to %d", impl.SpoolPause(1), impl.SpoolPause(4))
	}
}

func TestSpoolDue(t *testing.T) {
	cases := []struct {
		now  int
		want []int
	}{
		{-1 << 63, nil}, {-1, nil}, {0, []int{8}}, {4, []int{8}}, {5, []int{2, 8}}, {9, []int{2, 8}}, {10, []int{2, 4, 8}}, {impl.TimeMax - 1, []int{2, 4, 8}},
		{impl.TimeMax, []int{2, 4, 7, 8}}, {impl.TimeMax + 1, []int{2, 4, 7, 8}}, {1<<63 - 1, []int{2, 4, 7, 8}},
	}
	for _, c := range cases {
		if got := impl.SpoolDue(oneSpool(), c.now); !slices.Equal(got, c.want) {
			t.Errorf("SpoolDue at %d = %v, not %v", c.now, got, c.want)
		}
	}
}

// Promise 26.
func TestWhatIsDueRemainsDue(t *testing.T) {
	for _, s := range goodSpools() {
		var before, all []int
		for _, x := range s.Items {
			all = append(all, x.Id)
		}
		for now := -1; now < 45; now++ {
			var want []int
			for _, x := range s.Items {
				if slices.ContainsFunc(x.To, func(r impl.Rcpt) bool { return r.Next <= now }) {
					want = append(want, x.Id)
				}
			}
			due := impl.SpoolDue(s, now)
			if !slices.Equal(due, want) || slices.ContainsFunc(before, func(id int) bool { return !slices.Contains(due, id) }) {
				t.Errorf("SpoolDue(%s, %d) = %v after %v", spoolText(s), now, due, before)
			}
			before = due
		}
		if due := impl.SpoolDue(s, impl.TimeMax); !slices.Equal(due, all) {
			t.Errorf("SpoolDue(%s, TimeMax) = %v", spoolText(s), due)
		}
	}
}

func TestSpoolMany(t *testing.T) {
	for _, s := range goodSpools() {
		want := 0
		for _, x := range s.Items {
			want += len(x.To)
		}
		if got := impl.SpoolMany(s); got != want {
			t.Errorf("SpoolMany(%s) = %d, not %d", spoolText(s), got, want)
		}
	}
	if many := impl.SpoolMany(oneSpool()); many != 8 {
		t.Errorf("SpoolMany = %d", many)
	}
}

func TestInvalidSpools(t *testing.T) {
	for _, s := range badSpools() {
		added, ok := impl.SpoolAdd(s, letter(), 0)
		done, doneOk := impl.SpoolDone(s, 1, ann)
		later, laterOk := impl.SpoolLater(s, 1, ann, 0)
		if ok || doneOk || laterOk || !sameSpool(added, impl.Spool{}) || !sameSpool(done, impl.Spool{}) || !sameSpool(later, impl.Spool{}) {
			t.Errorf("%s becomes %s, %s, %s", spoolText(s), spoolText(added), spoolText(done), spoolText(later))
		}
		// An argument that is not valid either changes nothing.
		added, ok = impl.SpoolAdd(s, impl.Mail{}, -1)
		done, doneOk = impl.SpoolDone(s, -1, impl.Addr{})
		later, laterOk = impl.SpoolLater(s, -1, impl.Addr{}, -1)
		if ok || doneOk || laterOk || !sameSpool(added, impl.Spool{}) || !sameSpool(done, impl.Spool{}) || !sameSpool(later, impl.Spool{}) {
			t.Errorf("%s becomes %s, %s, %s", spoolText(s), spoolText(added), spoolText(done), spoolText(later))
		}
		if due := impl.SpoolDue(s, impl.TimeMax); len(due) > 0 || impl.SpoolMany(s) != -1 {
			t.Errorf("SpoolDue(%s) = %v, and SpoolMany is %d", spoolText(s), due, impl.SpoolMany(s))
		}
	}
}
