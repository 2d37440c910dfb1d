package clerk_test

import (
	"math/rand"
	"slices"
	"strings"
	"testing"

	"oyez/api"
	"oyez/clerk"
)

// P12.2

// whole are lines that do all that can be done, and ask all that can be asked.
func whole() []string {
	return append(example(), "left 0", "holds 1 1", "mend 0 1", "criers 2 1 2 3", "round 0 2 0 1", "round 1 1 0", "paid", "duty 1 0", "duty 2 0 1", "load",
		"traits 1 5 3", "lost 10 1 x", "lost 7 2 3", "found 1 2", "found x 4", "joins", "seal", "hand", "air 3 9", "pay 1 2", "round 1 2 1", "seal", "paid")
}

// doing are the lines of them that do anything.
func doing(lines []string) []string {
	var l []string
	for _, line := range lines {
		if verb, _ := cut(line); !slices.Contains(asking(), verb) {
			l = append(l, line)
		}
	}
	return l
}

func TestJournal(t *testing.T) {
	c := clerk.New()
	if l := c.Journal(); len(l) > 0 {
		t.Error(l)
	}
	wrong := []string{"", " ", "sing", "town hs", "air 9 9", "link 0 9", "stand 99", "notice 9 a", "cry 9 9", "criers 9 9 9 9", "round 9 9 9", "pay 99", "duty 9 9", "traits 9 9", "lost 1000 9", "found 9", strings.Repeat("a", 81)}
	var want []string
	for _, line := range whole() {
		if _, e := c.Do(line); e != api.OK {
			t.Fatal(line, e)
		}
		want = append(want, doing([]string{line})...)
		for _, line := range wrong {
			if s, e := c.Do(line); s != "" || e == api.OK {
				t.Error(line, s, e)
			}
		}
		if l := c.Journal(); !slices.Equal(l, want) {
			t.Errorf("%q, not %q", l, want)
		}
	}
	if len(want) != 22 {
		t.Error(want)
	}
}

func TestFullJournal(t *testing.T) {
	c := with(t, whole()...)
	left := 60 - len(doing(whole()))
	for range left {
		check(t, c, "air 0 5", "ok", api.OK)
	}
	before := print(c)
	for _, line := range []string{"air 0 5", "air 9 9", "town hs", "town h hh", "link 0 1", "stand 99", "notice none aeiouaeiouaeiou", "back 9 a", "cry 9 9", "criers 9 9 9 9", "round 9 9 9", "pay 0 0", "duty 9 9", "traits 9 9", "lost 1 1", "found 1 1", "hand"} {
		check(t, c, line, "", api.ErrCount)
	}
	for _, x := range []struct {
		line string
		e    api.Errno
	}{
		{"air 9", api.ErrForm}, {"sing", api.ErrVerb}, {"air  0 5", api.ErrForm}, {"left 99", api.ErrRange}, {"holds 0 9", api.ErrAbsent}, {"mend 0 0 0", api.ErrTwice},
		{"left 0", api.OK}, {"holds 0 0", api.OK}, {"mend 0 0 1", api.OK}, {"joins", api.OK}, {"load", api.OK}, {"paid", api.OK}, {"seal", api.OK},
	} {
		if _, e := c.Do(x.line); e != x.e {
			t.Error(x.line, e)
		}
	}
	if print(c) != before || len(c.Journal()) != 60 {
		t.Error(print(c), before)
	}
	// a line that only asks leaves room, and so does one with an error
	c = with(t, append([]string{"town hs"}, again(58, "air 1 1")...)...)
	for range 100 {
		check(t, c, "paid", "", api.OK)
		check(t, c, "air 1 0", "", api.ErrRange)
	}
	check(t, c, "air 1 2", "ok", api.OK)
	check(t, c, "air 1 0", "", api.ErrCount)
}

func TestCopy(t *testing.T) {
	lines := whole()
	for n := range len(lines) + 1 {
		c := with(t, lines[:n]...)
		o := c.Copy()
		before := print(c)
		if o == c || print(o) != before {
			t.Error(n, print(o), before)
		}
		// what is done in the one is not done in the other, and what is done in both has the same reply
		for _, line := range lines[n:] {
			if _, e := c.Do(line); e != api.OK {
				t.Error(n, line, e)
			}
		}
		if print(o) != before {
			t.Error(n, print(o), before)
		}
		after := print(c)
		other := with(t, lines[:n]...)
		for _, line := range lines[n:] {
			s, e := o.Do(line)
			r, f := other.Do(line)
			if s != r || e != f {
				t.Error(n, line, s, e, r, f)
			}
		}
		if print(o) != after || print(c) != after {
			t.Error(n, print(o), print(c), after)
		}
	}
}

// TestCopiesOfCopies lets a clerk and its copies do different lines behind the same ones.
func TestCopiesOfCopies(t *testing.T) {
	some(100, func(r *rand.Rand) {
		clerks, all := []*clerk.Clerk{clerk.New()}, []done{nil}
		for range 150 {
			n := r.Intn(len(clerks))
			if r.Intn(12) == 0 {
				clerks, all = append(clerks, clerks[n].Copy()), append(all, all[n])
				continue
			}
			line := random(r, all[n], one(r, themes()...))
			next, s, e := all[n].after(line)
			check(t, clerks[n], line, s, e)
			all[n] = next
		}
		for n, c := range clerks {
			same(t, c, all[n])
		}
	})
}

func TestReplay(t *testing.T) {
	lines := whole()
	for n := range len(lines) + 1 {
		c, many, e := clerk.Replay(lines[:n])
		if many != n || e != api.OK || c == nil || print(c) != print(with(t, lines[:n]...)) {
			t.Error(n, many, e)
		}
		// the first line with an error is told, whatever is behind it
		for _, x := range []struct {
			line string
			e    api.Errno
		}{
			{"", api.ErrForm}, {"sing", api.ErrVerb}, {"paid 1", api.ErrForm}, {"town s", map[bool]api.Errno{true: api.ErrNone, false: api.ErrTwice}[n == 0]},
			{"air 9 9", map[bool]api.Errno{true: api.ErrAbsent, false: api.ErrRange}[n == 0]}, {strings.Repeat("a", 81), api.ErrLong},
		} {
			l := append(slices.Clone(lines[:n]), x.line, "sing", "")
			if c, many, e := clerk.Replay(append(l, lines[n:]...)); c != nil || many != n || e != x.e {
				t.Error(n, x.line, many, e)
			}
			if c, many, e := clerk.Replay(l[:n+1]); c != nil || many != n || e != x.e {
				t.Error(n, x.line, many, e)
			}
		}
	}
	for _, l := range [][]string{nil, {}} {
		c, n, e := clerk.Replay(l)
		if c == nil || n != 0 || e != api.OK {
			t.Fatal(n, e)
		}
		same(t, c, nil)
		check(t, c, "town sh", "1", api.OK)
	}
}

func TestLongReplay(t *testing.T) {
	l := append([]string{"town hs"}, again(100000, "paid")...)
	if c, n, e := clerk.Replay(append(l, again(59, "air 1 1")...)); c == nil || n != 100060 || e != api.OK || len(c.Journal()) != 60 {
		t.Error(n, e)
	}
	if c, n, e := clerk.Replay(append(l, again(100, "air 1 1")...)); c != nil || n != 100060 || e != api.ErrCount {
		t.Error(n, e)
	}
}

func TestRandomReplay(t *testing.T) {
	wrong := 0
	some(200, func(r *rand.Rand) {
		var lines []string
		d, first, e := done(nil), -1, api.OK
		for range 40 {
			line := random(r, d, one(r, themes()...))
			next, _, f := d.after(line)
			if f != api.OK && r.Intn(20) > 0 {
				continue
			}
			if lines = append(lines, line); f != api.OK && first < 0 {
				first, e = len(lines)-1, f
			}
			d = next
		}
		c, n, f := clerk.Replay(lines)
		if first >= 0 {
			wrong++
			if c != nil || n != first || f != e {
				t.Error(lines, n, f, first, e)
			}
			return
		}
		if n != len(lines) || f != api.OK {
			t.Fatal(lines, n, f)
		}
		same(t, c, d)
	})
	if wrong < 20 || wrong > 180 {
		t.Error("too few lists of a kind:", wrong)
	}
}

// TestNotOpened has clerks that are none that New, Copy or Replay returned, also some that were made by an assignment.
func TestNotOpened(t *testing.T) {
	opened := with(t, whole()...)
	assigned := *opened
	fresh := *clerk.New()
	for i, c := range []*clerk.Clerk{nil, new(clerk.Clerk), {}, &assigned, &fresh} {
		for _, line := range append(whole(), "", " ", "sing", strings.Repeat("a", 100), "town", "paid 1") {
			check(t, c, line, "", api.ErrAbsent)
		}
		if c.Copy() != nil || len(c.Journal()) > 0 || len(c.Paid()) > 0 || len(c.File()) > 0 {
			t.Error(i, c.Copy(), c.Journal(), c.Paid(), c.File())
		}
		if want := done(nil).want(); print(c) != want {
			t.Error(i, print(c), want)
		}
	}
	same(t, opened, doing(whole()))
}
