package clerk_test

import (
	"fmt"
	"math/rand"
	"slices"
	"strings"
	"testing"

	"oyez/api"
	"oyez/clerk"
	"oyez/file"
	"oyez/news"
)

// P12.5 and P0.13

// years are clerks that did many random lines, each with all lines that were tried.
func years(n int, do func(r *rand.Rand, c *clerk.Clerk, tried []string)) {
	some(n, func(r *rand.Rand) {
		theme := one(r, themes()...)
		c, d := clerk.New(), done(nil)
		var tried []string
		for range 20 + r.Intn(80) {
			line := random(r, d, theme)
			tried = append(tried, line)
			if _, e := c.Do(line); e == api.OK {
				d, _, _ = d.after(line)
			}
		}
		do(r, c, tried)
	})
}

// further are lines that a clerk could do next.
func further(r *rand.Rand, c *clerk.Clerk) []string {
	l := []string{"paid", "seal", "load", "joins", "left 0", "left 1", "holds 0 0", "mend 0 0 1", "mend 1 0", "hand", "pay 0", "pay 0 0", "pay 0 0 0"}
	for range 10 {
		l = append(l, random(r, done(c.Journal()), ""))
	}
	return l
}

func TestAClerkThatIsMadeAgainIsTheSame(t *testing.T) {
	years(150, func(r *rand.Rand, c *clerk.Clerk, _ []string) {
		journal := c.Journal()
		again, n, e := clerk.Replay(journal)
		if n != len(journal) || e != api.OK || print(again) != print(c) {
			t.Fatal(n, e, print(again), print(c))
		}
		for _, line := range further(r, c) {
			s, e := c.Do(line)
			o, f := again.Do(line)
			if s != o || e != f || print(again) != print(c) {
				t.Error(line, s, e, o, f)
			}
		}
		// from the journal alone: a part of it is a journal, too
		part := journal[:r.Intn(len(journal)+1)]
		if p, n, e := clerk.Replay(part); n != len(part) || e != api.OK || !slices.Equal(p.Journal(), part) {
			t.Error(part, n, e)
		}
	})
}

func TestErrorsAndQuestionsChangeNothing(t *testing.T) {
	errors, questions := 0, 0
	years(150, func(r *rand.Rand, c *clerk.Clerk, _ []string) {
		for range 20 {
			before := print(c)
			line := random(r, done(c.Journal()), "")
			_, e := c.Do(line)
			verb, _ := cut(line)
			asks := slices.Contains(asking(), verb)
			if e != api.OK {
				errors++
			} else if asks {
				questions++
			}
			if (e != api.OK || asks) && print(c) != before {
				t.Errorf("%q changed %s to %s", line, before, print(c))
			}
		}
	})
	if errors < 100 || questions < 100 {
		t.Error("too few of a kind:", errors, questions)
	}
}

func TestRunRepliesTheSame(t *testing.T) {
	years(150, func(_ *rand.Rand, c *clerk.Clerk, tried []string) {
		var want strings.Builder
		tried = slices.DeleteFunc(tried, func(line string) bool { return strings.Contains(line, "\n") })
		o := clerk.New()
		for _, line := range tried {
			s, e := o.Do(line)
			if e != api.OK {
				s = fmt.Sprint("error ", int(e))
			}
			want.WriteString(s + "\n")
		}
		if s, e := clerk.Run(strings.Join(tried, "\n") + "\n"); s != want.String() || e != api.OK {
			t.Errorf("%q: %q %d", tried, s, e)
		}
		if print(o) != print(c) {
			t.Error(tried)
		}
	})
}

func TestRecordsAreARightFile(t *testing.T) {
	some(100, func(r *rand.Rand) {
		theme := one(r, themes()...)
		c, d := clerk.New(), done(nil)
		for range 60 {
			line := random(r, d, theme)
			if _, e := c.Do(line); e != api.OK {
				continue
			}
			d, _, _ = d.after(line)
			f := c.File()
			s, e := file.Print(f)
			if e != api.OK || file.Check(f) != api.OK || s != d.records() {
				t.Error(e, s, d.records())
			}
			reply, g := c.Do("seal")
			if sealed, e := file.Seal(s); sealed != "" && sealed != s+"seal "+reply+"\n" || e != g {
				t.Error(sealed, e, reply, g)
			}
		}
	})
}

// TestWhatIsLeft holds what is told of the news against layer 4: also that the cries that mend leave nobody.
func TestWhatIsLeft(t *testing.T) {
	left, mended := 0, 0
	some(300, func(r *rand.Rand) {
		d := done(nil)
		for range 60 {
			d, _, _ = d.after(random(r, d, themes()[1]))
		}
		c := with(t, d...)
		n, cries, e := c.News()
		if e != api.OK || len(n.Notices) == 0 || len(n.Stands) == 0 {
			return
		}
		if e := news.Check(n); e != api.OK {
			t.Fatal(d, e)
		}
		for evenings := range 4 {
			gaps, e := news.Left(n, cries, evenings)
			reply, f := c.Do(fmt.Sprint("left ", evenings))
			if len(strings.Fields(reply)) != 2*len(gaps) || e != api.OK || f != api.OK {
				t.Error(reply, gaps, e, f)
			}
			for i, g := range gaps {
				left++
				if l := strings.Fields(reply)[2*i:]; l[0] != fmt.Sprint(g.House) || l[1] != fmt.Sprint(g.Notice) {
					t.Error(reply, gaps)
				}
			}
			var stands []int
			line := fmt.Sprint("mend ", evenings)
			for stand := range n.Stands {
				stands, line = append(stands, stand), line+fmt.Sprint(" ", stand)
			}
			further, e := news.Fewest(n, cries, evenings, stands)
			if reply, f := c.Do(line); reply != fmt.Sprint(len(further)) || e != api.OK || f != api.OK {
				t.Error(line, reply, further, e, f)
			}
			if len(further) == 0 || len(cries)+len(further) > 16 || len(d)+len(further) > 60 {
				continue
			}
			mended++
			o := c.Copy()
			for _, x := range further {
				check(t, o, fmt.Sprint("cry ", x.Notice, " ", x.Stand), "ok", api.OK)
			}
			check(t, o, fmt.Sprint("left ", evenings), "", api.OK)
		}
	})
	if left < 100 || mended < 50 {
		t.Error("too little of a kind:", left, mended)
	}
}

// TestAYearIsPlayedAgain plays the lines of all examples, and those of a whole desk, again from the journal.
func TestAYearIsPlayedAgain(t *testing.T) {
	for _, lines := range [][]string{nil, example(), whole(), desk(), append(desk(), "hand", "pay 0 0 0", "criers 1 0 0 0", "traits 0 1")} {
		c := with(t, lines...)
		if !slices.Equal(c.Journal(), doing(lines)) {
			t.Error(c.Journal())
		}
		again, n, e := clerk.Replay(c.Journal())
		if print(again) != print(c) || n != len(doing(lines)) || e != api.OK {
			t.Error(print(again), print(c), n, e)
		}
	}
}
