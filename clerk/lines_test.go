package clerk_test

import (
	"math/rand"
	"slices"
	"strings"
	"testing"

	"oyez/api"
	"oyez/clerk"
)

// P12.1

func TestWords(t *testing.T) {
	for i, x := range []struct {
		line  string
		words []string
		e     api.Errno
	}{
		{"paid", []string{"paid"}, api.OK},
		{"town shsh", []string{"town", "shsh"}, api.OK},
		{"a b c", []string{"a", "b", "c"}, api.OK},
		{"sing 01 A1 ,", []string{"sing", "01", "A1", ","}, api.OK},
		{"a\tb\n c", []string{"a\tb\n", "c"}, api.OK},
		{"\xff \x00 é", []string{"\xff", "\x00", "é"}, api.OK},
		{"", nil, api.ErrForm},
		{" ", nil, api.ErrForm},
		{" a", nil, api.ErrForm},
		{"a ", nil, api.ErrForm},
		{"a  b", nil, api.ErrForm},
		{"a   b", nil, api.ErrForm},
		{strings.Repeat("a", 80), []string{strings.Repeat("a", 80)}, api.OK},
		{strings.Repeat("a", 81), nil, api.ErrLong},
		{strings.Repeat(" ", 80), nil, api.ErrForm},
		{strings.Repeat(" ", 81), nil, api.ErrLong},
		{strings.Repeat("é", 40), []string{strings.Repeat("é", 40)}, api.OK},
		{strings.Repeat("é", 40) + "a", nil, api.ErrLong},
		{strings.Repeat("a ", 39) + "bc", append(slices.Repeat([]string{"a"}, 39), "bc"), api.OK},
		{strings.Repeat("a ", 40) + "b", nil, api.ErrLong},
	} {
		if l, e := clerk.Words(x.line); !slices.Equal(l, x.words) || e != x.e {
			t.Errorf("%d: %q %d", i, l, e)
		}
	}
}

// TestAllShortWords takes all lines of at most 6 bytes that are a or a blank.
func TestAllShortWords(t *testing.T) {
	lines := []string{""}
	for n := 0; n < len(lines) && len(lines[n]) < 6; n++ {
		lines = append(lines, lines[n]+"a", lines[n]+" ")
	}
	for _, line := range lines {
		want, e := strings.Fields(line), api.OK
		if strings.Join(want, " ") != line || line == "" {
			want, e = nil, api.ErrForm
		}
		if l, f := clerk.Words(line); !slices.Equal(l, want) || f != e {
			t.Errorf("%q: %q %d", line, l, f)
		}
	}
}

// right are lines of the right form: one of each verb with the fewest words, and one with more, if there can be more.
func right() []string {
	return []string{
		"town s", "town s h w", "air 0 5", "link 0 1", "stand 0", "notice none a", "notice 0 not, a", "back none a", "back 7 a b,", "cry 0 0",
		"criers 1 0 0 0", "round 0 1 0", "round 0 1 0 1 2", "pay 0", "pay 0 1", "duty 1 0", "duty 1 0 1", "traits 0 1", "traits 0 1 2",
		"lost 0 x", "lost 0 1 x", "found x", "found 1 x 2", "hand", "left 0", "holds 0 0", "mend 0 0", "mend 0 1 2", "joins", "load", "paid", "seal",
	}
}

// TestForms changes each word of right lines to each of many words, and takes each away, and puts one more behind. Without a
// town a line of the right form, but town, is ErrAbsent.
func TestForms(t *testing.T) {
	words := []string{
		"0", "1", "9", "10", "999999", "1000000", "0000001", "00", "01", "-1", "+1", "-0", "1.0", "1e1", "0x1", "1_0", "٣", "99999999999999999999",
		"x", "none", "xx", "nones", "None", "X", "a", "z", "a,", "z,", ",", ",a", "a,,", "a,b", "A", "a1", "1a", "é", "\xff", "a\x00", "a\n", "`", "{", "/", ":",
		"s", "h", "w", "shw", "ss", "S", "sa", "s,", "town", "not", "sx", "\t",
	}
	for _, line := range right() {
		l := strings.Split(line, " ")
		lines := []string{line, strings.Join(l[:len(l)-1], " ")}
		for _, w := range words {
			lines = append(lines, line+" "+w)
			for n := range l {
				other := slices.Clone(l)
				other[n] = w
				lines = append(lines, strings.Join(other, " "))
			}
		}
		for _, line := range lines {
			_, s, e := done(nil).after(line)
			check(t, clerk.New(), line, s, e)
			_, s, e = done{"town sh"}.after(line)
			check(t, with(t, "town sh"), line, s, e)
		}
	}
}

// TestFormsOfRandomWords puts random words behind each verb.
func TestFormsOfRandomWords(t *testing.T) {
	fits := 0
	some(200, func(r *rand.Rand) {
		for _, verb := range verbs() {
			line := verb
			for range r.Intn(6) {
				line += " " + one(r, "0", "1", "2", "x", "none", "a", "s", "0", "1", "01", "a,")
			}
			_, s, e := done{"town sh"}.after(line)
			check(t, with(t, "town sh"), line, s, e)
			if e != api.ErrForm {
				fits++
			}
		}
	})
	if fits < 100 {
		t.Error("too few lines of a right form:", fits)
	}
}

// step is a line with its reply, or its error.
type step struct {
	line, reply string
	e           api.Errno
}

// play does lines one after the other.
func play(t *testing.T, c *clerk.Clerk, l ...step) {
	t.Helper()
	for _, x := range l {
		check(t, c, x.line, x.reply, x.e)
	}
}

// example are the lines of the chapter's first two examples.
func example() []string {
	return []string{
		"town shsh", "stand 0", "stand 2", "link 0 1",
		"notice none the bridge is shut", "back 0 it is not shut, but open", "cry 0 1", "cry 1 0",
	}
}

func TestExamples(t *testing.T) {
	c := clerk.New()
	play(t, c,
		step{"town shsh", "2", api.OK}, step{"stand 0", "0 0", api.OK}, step{"stand 2", "1 0 1", api.OK},
		step{"link 0 1", "ok", api.OK}, step{"notice none the bridge is shut", "0 1", api.OK}, step{"back 0 it is not shut, but open", "1 1", api.OK},
		step{"cry 0 1", "ok", api.OK}, step{"cry 1 0", "ok", api.OK},
		step{"left 0", "1 0", api.OK}, step{"left 1", "", api.OK}, step{"mend 0 1", "1", api.OK},
		step{"criers 2 1 2 0", "ok", api.OK}, step{"round 0 2 0 1", "12", api.OK}, step{"pay 0 0", "12 0 0", api.OK}, step{"paid", "12 0", api.OK},
		step{"traits 0 5 3", "ok", api.OK}, step{"lost 10 1 x", "0", api.OK}, step{"found 1 2", "0", api.OK}, step{"joins", "5 1 10", api.OK},
		step{"hand", "1 10", api.OK}, step{"joins", "0 1 0", api.OK},
	)
}

// TestRandomLines holds the reply to each of many lines against what all lines that were done say, and what is there behind
// them. (P12.2 and P12.4, too.)
func TestRandomLines(t *testing.T) {
	replies := map[string]map[api.Errno]int{}
	some(280, func(r *rand.Rand) {
		if t.Failed() {
			return
		}
		theme := one(r, themes()...)
		c, d := clerk.New(), done(nil)
		for range 110 {
			line := random(r, d, theme)
			next, s, e := d.after(line)
			check(t, c, line, s, e)
			verb, _ := cut(line)
			if replies[verb] == nil {
				replies[verb] = map[api.Errno]int{}
			}
			replies[verb][e]++
			d = next
		}
		same(t, c, d)
	})
	for _, verb := range verbs() {
		if replies[verb][api.OK] < 40 {
			t.Error("too few right lines:", verb, replies[verb])
		}
	}
}
