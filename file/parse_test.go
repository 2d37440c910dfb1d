package file_test

import (
	"math/rand"
	"strconv"
	"strings"
	"testing"

	"oyez/api"
	"oyez/file"
)

// P11.2

// sameParse checks that Parse of a text returns what it should.
func sameParse(t *testing.T, text string, want parsed) {
	t.Helper()
	f, line, word, e := file.Parse(text)
	if told(f) != told(want.f) || line != want.line || word != want.word || e != want.e {
		t.Fatalf("%q: %v, line %d, word %d, error %d, want %+v", text, f, line, word, e, want)
	}
}

func TestParse(t *testing.T) {
	most := "notice 999 aaaaaaaaaaaa aaaaaaaaaaaa aaaaaaaaaaaa aaaaaaaaaaaa"
	long := strings.Repeat("x", 65)
	for _, x := range []struct {
		text       string
		line, word int
		e          api.Errno
	}{
		{"", 0, 0, api.OK},
		{"notice 3 tide at six\nfee 12\n", 0, 0, api.OK},
		{"stand 0\nnotice 0\nfind 0\nfee 0\nplea 0\n", 0, 0, api.OK},
		{most + "\n", 0, 0, api.OK},
		{most + " a\n", 0, 0, api.OK},
		{"fee 1 a b c d e f\n", 0, 0, api.OK},
		// the examples
		{"notice 3 tide\nnotice 03\n", 1, 1, api.ErrForm},
		{"notice 3 tide\nnotice 3\n", 1, 1, api.ErrOrder},
		{"notice 3 tide\nnotes 3\n", 1, 0, api.ErrVerb},
		{"notice 3 tide\nnotice 3", 1, 0, api.ErrForm},
		{"notice 3 tide\nnotes 03 A", 1, 0, api.ErrForm},
		{"notice 3 tide\n" + long, 1, 0, api.ErrLong},
		// all that can be wrong with a line, as far as it can be so at once
		{long + "\n", 0, 0, api.ErrLong},
		{"notice 3 " + long + "\n", 0, 0, api.ErrLong},
		{long[1:] + "\n", 0, 0, api.ErrVerb},
		{long[1:], 0, 0, api.ErrForm},
		{"\n", 0, 0, api.ErrVerb},
		{" \n", 0, 0, api.ErrVerb},
		{" fee 1\n", 0, 0, api.ErrVerb},
		{"fees 01 a b c d e f g\n", 0, 0, api.ErrVerb},
		{"FEE 1\n", 0, 0, api.ErrVerb},
		{"fee\t1\n", 0, 0, api.ErrVerb},
		{"fee\r\n", 0, 0, api.ErrVerb},
		{"fee\n", 0, 1, api.ErrForm},
		{"fee \n", 0, 1, api.ErrForm},
		{"fee  1\n", 0, 1, api.ErrForm},
		{"fee 01 a b c d e f g\n", 0, 1, api.ErrForm},
		{"fee 1 A b c d e f g\n", 0, 8, api.ErrCount},
		{"fee 1       \n", 0, 8, api.ErrCount},
		{"fee 1      \n", 0, 2, api.ErrForm},
		{"fee 1 a b c d e f \n", 0, 8, api.ErrCount},
		{"fee 1 a b c d e F\n", 0, 7, api.ErrForm},
		{"fee 1 \n", 0, 2, api.ErrForm},
		{"fee 1 a \n", 0, 3, api.ErrForm},
		{"fee 1  a\n", 0, 2, api.ErrForm},
		{"fee 1 aaaaaaaaaaaaa B\n", 0, 2, api.ErrForm},
		{"fee 1\nfee 1 A\n", 1, 2, api.ErrForm},
		{"fee 1\nfee 0\n", 1, 1, api.ErrOrder},
		{"fee 1\nfind 2\n", 1, 1, api.ErrOrder},
		// the first line with an error decides
		{"fee 1\nfee 1\n" + long, 1, 1, api.ErrOrder},
		{"fee 1 A\nfees\n", 0, 2, api.ErrForm},
		{"fee 1\n\nfee 2\n", 1, 0, api.ErrVerb},
		{"fee 1\nfee 2\n\n", 2, 0, api.ErrVerb},
	} {
		want := parse(x.text)
		if want.line != x.line || want.word != x.word || want.e != x.e {
			t.Errorf("%q: %+v", x.text, want)
		}
		sameParse(t, x.text, want)
	}
}

func TestTooManyLines(t *testing.T) {
	text := print(many(40))
	sameParse(t, text, parsed{f: many(40)})
	for _, more := range []string{"x", "\n", "plea 1\n", "plea 1", strings.Repeat("x", 65), "find 0\n"} {
		sameParse(t, text+more, parsed{line: 40, e: api.ErrCount})
	}
	sameParse(t, text[1:]+"x\n", parsed{e: api.ErrVerb})
	lines := strings.SplitAfter(text, "\n")
	for i := 1; i < 40; i++ {
		sameParse(t, strings.Join(lines[:i], "")+lines[i-1]+strings.Join(lines[i:], ""), parsed{line: i, word: 1, e: api.ErrOrder})
	}
}

// TestNumbers asks numbers from 0 to beyond the last one, written in many ways.
func TestNumbers(t *testing.T) {
	for n := range 1200 {
		s := strconv.Itoa(n)
		want := parsed{word: 1, e: api.ErrForm}
		for _, odd := range []string{"0" + s, "00" + s, "+" + s, "-" + s, s + "a", "a" + s, s + ".", s + "_", s + "٣", "0x" + s, s + "\x00", s + "e0", s + "00000000000000000000", s + ","} {
			sameParse(t, "plea "+odd+"\n", want)
		}
		if n <= file.MaxNumber {
			want = parsed{f: records(rec(file.Plea, n, ""))}
		}
		sameParse(t, "plea "+s+"\n", want)
	}
}

// TestAllShortTexts parses all texts of a few parts.
func TestAllShortTexts(t *testing.T) {
	parts := []string{"stand", "fee", " ", "\n", "0", "7", "a", "A"}
	seen := map[api.Errno]int{}
	var add func(text string, left int)
	add = func(text string, left int) {
		want := parse(text)
		sameParse(t, text, want)
		seen[want.e]++
		if left == 0 {
			return
		}
		for _, part := range parts {
			add(text+part, left-1)
		}
	}
	add("", 5)
	add("fee 7 a\n", 5)
	add("fee 7 a a a a ", 5)
	for _, e := range []api.Errno{api.OK, api.ErrForm, api.ErrVerb, api.ErrCount, api.ErrOrder} {
		if seen[e] < 10 {
			t.Error("too few texts with error", e)
		}
	}
}

// TestDamagedTexts changes some bytes of the texts of files.
func TestDamagedTexts(t *testing.T) {
	seen := map[api.Errno]int{}
	someCopies(t, 3000, 80, func(r *rand.Rand, f, _, _ []file.Record) {
		text := []byte(print(f))
		for range r.Intn(4) {
			if len(text) == 0 {
				break
			}
			i := r.Intn(len(text))
			switch r.Intn(4) {
			case 0:
				text = append(text[:i], text[i+1:]...)
			case 1:
				text = append(text[:i], append([]byte(" \n0a")[r.Intn(4):], text[i:]...)...)
			case 2:
				text[i] = byte(r.Intn(256))
			case 3:
				text[i] = " \n09azA"[r.Intn(7)]
			}
		}
		want := parse(string(text))
		sameParse(t, string(text), want)
		seen[want.e]++
	})
	for _, e := range []api.Errno{api.OK, api.ErrForm, api.ErrVerb, api.ErrCount, api.ErrOrder} {
		if seen[e] < 10 {
			t.Error("too few texts with error", e, seen[e])
		}
	}
}
