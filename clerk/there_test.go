package clerk_test

import (
	"fmt"
	"math"
	"slices"
	"testing"

	"oyez/api"
	"oyez/clerk"
	"oyez/fee"
	"oyez/file"
	"oyez/find"
	"oyez/hear"
	"oyez/news"
	"oyez/slot"
	"oyez/text"
)

// P12.4

func TestThereIsNothing(t *testing.T) {
	absent := func(c *clerk.Clerk, town, criers, traits api.Errno) {
		t.Helper()
		x, air, e := c.Town()
		n, cries, f := c.News()
		if e != town || f != town || town != api.OK && (x.Plots != nil || x.Wide != 0 || air != hear.Air{} || n.Houses != 0 || cries != nil) {
			t.Error(x, air, e, n, cries, f)
		}
		b, e := c.Box()
		r, f := c.Roll()
		if e != criers || f != criers || criers != api.OK && (b.Criers != 0 || b.Rounds != nil || r.Men != 0 || r.Notices != nil) {
			t.Error(b, e, r, f)
		}
		if d, e := c.Desk(); e != traits || traits != api.OK && (d.Weights != nil || d.Lost != nil || d.Found != nil || d.Rewards != nil) {
			t.Error(d, e)
		}
		for _, n := range []int{-1, 0, 1, 7, 8, math.MinInt, math.MaxInt} {
			if x, e := c.Text(n); e != api.ErrAbsent || x.Words != nil || x.Turns != nil || x.Breath != 0 {
				t.Error(n, x, e)
			}
		}
	}
	absent(clerk.New(), api.ErrAbsent, api.ErrAbsent, api.ErrAbsent)
	absent(with(t, "town hs"), api.OK, api.ErrAbsent, api.ErrAbsent)
	absent(with(t, "town hs", "criers 1 0 0 0"), api.OK, api.OK, api.ErrAbsent)
	absent(with(t, "town hs", "traits 0 1"), api.OK, api.ErrAbsent, api.OK)
	absent(with(t, "town hs", "traits 0 1", "criers 1 1 1 1"), api.OK, api.OK, api.OK)
	absent(nil, api.ErrAbsent, api.ErrAbsent, api.ErrAbsent)
	absent(new(clerk.Clerk), api.ErrAbsent, api.ErrAbsent, api.ErrAbsent)
}

func TestWhatIsThere(t *testing.T) {
	c := with(t, whole()...)
	town, air, e := c.Town()
	if fmt.Sprint(town) != fmt.Sprint(hear.Town{Wide: 4, Plots: []hear.Plot{0, 1, 0, 1}}) || air != (hear.Air{Wind: hear.South, Voice: 9}) || e != api.OK {
		t.Error(town, air, e)
	}
	n, cries, e := c.News()
	want := news.News{Houses: 2, Links: [][2]int{{0, 1}}, Notices: []news.Notice{{After: -1}, {After: 0, Back: true}}, Stands: [][]int{{0}, {0, 1}}}
	if fmt.Sprint(n) != fmt.Sprint(want) || !slices.Equal(cries, []news.Cry{{Notice: 0, Stand: 1}, {Notice: 1, Stand: 0}}) || e != api.OK {
		t.Error(n, cries, e)
	}
	for i, words := range [][]string{{"the", "bridge", "is", "shut"}, {"it", "is", "not", "shut,", "but", "open"}} {
		if x, e := c.Text(i); fmt.Sprint(x) != fmt.Sprint(textOf(words)) || e != api.OK {
			t.Error(i, x, e)
		}
	}
	for _, i := range []int{-1, 2, 8, math.MinInt, math.MaxInt} {
		if x, e := c.Text(i); fmt.Sprint(x) != fmt.Sprint(text.Text{}) || e != api.ErrAbsent {
			t.Error(i, x, e)
		}
	}
	box := fee.Box{Criers: 2, Word: 1, Stand: 2, Fine: 3, Rounds: []fee.Round{{Words: 6, Stands: 2, May: []int{1}}}}
	if b, e := c.Box(); fmt.Sprint(b) != fmt.Sprint(box) || e != api.OK {
		t.Error(b, e)
	}
	roll := slot.Roll{Men: 2, Notices: []slot.Notice{{Times: 1, Men: []int{0}}, {Times: 2, Men: []int{0, 1}}}}
	if r, e := c.Roll(); fmt.Sprint(r) != fmt.Sprint(roll) || e != api.OK {
		t.Error(r, e)
	}
	desk := find.Desk{Weights: []int{5, 3}, Slips: 1, Lost: [][]int{{2, 3}}, Found: [][]int{{-1, 4}}, Rewards: []int{7}}
	if d, e := c.Desk(); fmt.Sprint(d) != fmt.Sprint(desk) || e != api.OK {
		t.Error(d, e)
	}
	// the fees were 12 and 8, and both criers were late
	if paid := c.Paid(); !slices.Equal(paid, []int{8 - 3, 12 - 6}) {
		t.Error(paid)
	}
	// A link is told as its line has it.
	c = with(t, "town hhh hss", "link 2 1", "link 0 3", "link 3 2")
	if n, _, e := c.News(); !slices.Equal(n.Links, [][2]int{{2, 1}, {0, 3}, {3, 2}}) || n.Houses != 4 || e != api.OK {
		t.Error(n, e)
	}
}

func TestFile(t *testing.T) {
	for i, x := range []struct {
		lines []string
		text  string
	}{
		{nil, ""},
		{[]string{"town hs"}, ""},
		{[]string{"town hs", "criers 2 1 1 1", "traits 0 1"}, ""},
		{example(), "stand 0 0 1\nstand 1 2 2\nnotice 0 none said 4 1\nnotice 1 0 back 6 1\n"},
		{whole(), "stand 0 0 1\nstand 1 2 2\nnotice 0 none said 4 1\nnotice 1 0 back 6 1\nfind 0 7 2 3\nfind 100 x 4\nfee 0 1 2 16\nplea 0 1 0\nplea 1 2 0 1\n"},
		{[]string{"town hhsshh hhhhhh", "stand 3", "air 0 1", "stand 2"}, "stand 0 3 4\nstand 1 2 0\n"},
		{[]string{"town sh", "notice none aeiouyae, aeiouyae, aeiouyae", "back none brr", "back 0 a,", "notice 2 b"}, "notice 0 none said 3 3\nnotice 1 none back 1 1\nnotice 2 0 back 1 1\nnotice 3 2 said 1 1\n"},
		{[]string{"town sh", "traits 0 1 2 3 4 5", "found 0 1 2 3 x", "lost 99 x x x x x", "lost 0 5 4 3 2 1", "found x x x x 0"}, "find 0 99 x x x x x\nfind 1 0 5 4 3 2 1\nfind 100 0 1 2 3 x\nfind 101 x x x x 0\n"},
		{[]string{"town sh", "notice none a b c", "notice none a", "criers 4 3 20 0", "round 1 5 0 3", "round 0 2 1", "duty 3 0 1 2 3", "duty 1 3"}, "notice 0 none said 3 1\nnotice 1 none said 1 1\nfee 0 1 5 115\nfee 1 0 2 58\nplea 0 3 0 1 2 3\nplea 1 1 3\n"},
	} {
		c := with(t, x.lines...)
		f := c.File()
		if s, e := file.Print(f); s != x.text || e != api.OK || file.Check(f) != api.OK {
			t.Errorf("%d: %q %d", i, s, e)
		}
		reply, e := sums(x.text)
		if x.lines == nil {
			e = api.ErrAbsent
		}
		check(t, c, "seal", reply, e)
		if sealed, e := file.Seal(x.text); e == api.OK && sealed != x.text+"seal "+reply+"\n" {
			t.Error(i, sealed, reply)
		}
	}
}

// TestLargestFile has as many records as there can be, and as long ones.
func TestLargestFile(t *testing.T) {
	lines := slices.Concat(
		[]string{"town hhhhh ssssh hhhhs sssss sssss sssss"},
		[]string{"stand 29", "stand 29", "stand 29", "stand 29", "stand 29", "stand 29"},
		many(8, func(int) string { return "back none a, b c d e f g h, i" }),
		[]string{"traits 3 9 9 9 9 9"}, again(6, "lost 99 5 5 5 5 5"), again(6, "found 5 5 5 5 5"),
		[]string{"criers 4 20 20 20"}, again(7, "round 7 5 0 1 2 3"), again(6, "duty 3 0 1 2 3"),
	)
	c := with(t, lines...)
	f := c.File()
	s, e := file.Print(f)
	if len(f) != 39 || e != api.OK || s != done(lines).records() {
		t.Error(len(f), e, s)
	}
	reply, _ := sums(s)
	check(t, c, "seal", reply, api.OK)
	kinds := [5]int{}
	for _, r := range f {
		kinds[r.Kind]++
	}
	if kinds != [5]int{6, 8, 12, 7, 6} {
		t.Error(kinds)
	}
}
