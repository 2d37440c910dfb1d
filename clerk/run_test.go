package clerk_test

import (
	"fmt"
	"math/rand"
	"strings"
	"testing"

	"oyez/api"
	"oyez/clerk"
)

// P12.3

func TestRun(t *testing.T) {
	sealed, _ := sums("stand 0 0 1\nstand 1 2 2\nnotice 0 none said 4 1\nnotice 1 0 back 6 1\n")
	for i, x := range []struct {
		text, replies string
		e             api.Errno
	}{
		{"", "", api.OK},
		{"\n", "error 11\n", api.OK},
		{"\n\n", "error 11\nerror 11\n", api.OK},
		{" ", "error 11\n", api.OK},
		{"town sh", "1\n", api.OK},
		{"town sh\n", "1\n", api.OK},
		{"town sh\n\n", "1\nerror 11\n", api.OK},
		{"\ntown sh", "error 11\n1\n", api.OK},
		{"town sh\r\n", "error 11\n", api.OK},
		{"paid\ntown sh\npaid\npaid", "error 1\n1\n\n\n", api.OK},
		{"town shsh\nstand 0\nstand 2\nstand 1\nair 0 1\nstand 0\nsing\n" + strings.Repeat("a", 81), "2\n0 0\n1 0 1\nerror 8\nok\n2\nerror 12\nerror 10\n", api.OK},
		{"town s\ntown sh\ntown sh\nlink 0 1\nlink 0 0\nlink 0 1 2\nair 5 5\nleft 0\ntown ss s\nround 0 0 0\nair 0 5", "error 6\n1\nerror 5\nerror 1\nerror 8\nerror 11\nerror 3\nerror 6\nerror 5\nerror 1\nok\n", api.OK},
		{"town hs\ncriers 2 1 1 1\nduty 1 1 0\nduty 1 0 1\nnotice none a\nround 0 1 0\ncriers 1 1 1 1", "1\nok\nerror 4\n0\n0 1\n2\nerror 7\n", api.OK},
		{strings.Join(example(), "\n") + "\nleft 0\nleft 1\nmend 0 1\nseal", "2\n0 0\n1 0 1\nok\n0 1\n1 1\nok\nok\n1 0\n\n1\n" + sealed + "\n", api.OK},
		{"town hs\n" + strings.Repeat("air 1 1\n", 60) + "paid", "1\n" + strings.Repeat("ok\n", 59) + "error 2\n\n", api.OK},
		{strings.Repeat("a", 65536), "error 10\n", api.OK},
		{strings.Repeat("a", 65537), "", api.ErrLong},
		{strings.Repeat("\n", 65536), strings.Repeat("error 11\n", 65536), api.OK},
		{strings.Repeat("\n", 65537), "", api.ErrLong},
		{"town sh\n" + strings.Repeat("paid\n", 13105) + "a\n\n", "1\n" + strings.Repeat("\n", 13105) + "error 12\nerror 11\n", api.OK},
		{"town sh\n" + strings.Repeat("paid\n", 13105) + "a\n\n\n", "", api.ErrLong},
	} {
		if s, e := clerk.Run(x.text); s != x.replies || e != x.e {
			t.Errorf("%d: %.200q %d", i, s, e)
		}
	}
}

// TestRandomRun holds Run against what the lines that were done say, line by line.
func TestRandomRun(t *testing.T) {
	some(150, func(r *rand.Rand) {
		var text, want strings.Builder
		d := done(nil)
		lines := 1 + r.Intn(80)
		for n := range lines {
			line := strings.ReplaceAll(random(r, d, one(r, themes()...)), "\n", "")
			next, s, e := d.after(line)
			if e != api.OK {
				s = fmt.Sprintf("error %d", e)
			}
			if n == lines-1 && line == "" {
				line = "paid"
				if next, s, e = d.after(line); e != api.OK {
					s = fmt.Sprintf("error %d", e)
				}
			}
			text.WriteString(line)
			if n < lines-1 || r.Intn(2) == 0 {
				text.WriteString("\n")
			}
			want.WriteString(s + "\n")
			d = next
		}
		if s, e := clerk.Run(text.String()); s != want.String() || e != api.OK {
			t.Errorf("%q: %q %d, not %q", text.String(), s, e, want.String())
		}
	})
}
