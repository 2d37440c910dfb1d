package file_test

import (
	"math/rand"
	"strconv"
	"strings"
	"testing"

	"oyez/api"
	"oyez/file"
)

// P11.5

// someBody returns one of at most so many bytes, sometimes a text of a file, sometimes any bytes.
func someBody(r *rand.Rand, most int) string {
	from := []string{"ab \n", "\x00\xff\n", "seal 1023456789\n", "\n"}[r.Intn(4)]
	body := make([]byte, r.Intn(most))
	for i := range body {
		body[i] = from[r.Intn(len(from))]
		if r.Intn(8) == 0 {
			body[i] = byte(r.Intn(256))
		}
	}
	return string(body) + "\n"
}

func TestSealAndOpen(t *testing.T) {
	full := strings.Repeat("\xff", 4095) + "\n"
	for i, x := range []struct {
		body, text string
		e          api.Errno
	}{
		{"fee 1\n", "fee 1\nseal 395 1040\n", api.OK},
		{"\n", "\nseal 10 10\n", api.OK},
		{"\n\n", "\n\nseal 20 30\n", api.OK},
		{"\x00\n", "\x00\nseal 10 20\n", api.OK},
		{"fee 1\nseal 395 1040\n", sealed("fee 1\nseal 395 1040\n"), api.OK},
		{full, sealed(full), api.OK},
		{full[1:], sealed(full[1:]), api.OK},
		{strings.Repeat("\n", 4096), sealed(strings.Repeat("\n", 4096)), api.OK},
		{"", "", api.ErrForm},
		{"fee 1", "", api.ErrForm},
		{"\nfee 1", "", api.ErrForm},
		{"fee 1\r", "", api.ErrForm},
		{full[1:] + "a", "", api.ErrForm},
		{full[1:] + "\n\n", "", api.ErrLong},
		{full + "a", "", api.ErrLong},
	} {
		text, e := file.Seal(x.body)
		if text != x.text || e != x.e {
			t.Errorf("%d: %q, error %d", i, text, e)
		}
		if e != api.OK {
			continue
		}
		if body, e := file.Open(text); body != x.body || e != api.OK {
			t.Errorf("%d: %q, error %d", i, body, e)
		}
	}
	r := rand.New(rand.NewSource(5))
	for range 2000 {
		body := someBody(r, 1<<r.Intn(13))
		text, e := file.Seal(body)
		if text != sealed(body) || e != api.OK {
			t.Fatalf("%q: %q, error %d", body, text, e)
		}
		if again, e := file.Open(text); again != body || e != api.OK {
			t.Fatalf("%q: %q, error %d", text, again, e)
		}
	}
}

// TestOpenOfManyTexts opens texts whose last lines have all kinds of forms.
func TestOpenOfManyTexts(t *testing.T) {
	r := rand.New(rand.NewSource(6))
	seen := map[api.Errno]int{}
	numbers := []string{"0", "1", "10", "20", "395", "1040", "65535", "65536", "65537", "65546", "99999", "100000", "00", "010", "", "a", "-1", "+10", "1.0", " ", "4294967306", "18446744073709551626"}
	number := func(right int) string {
		if r.Intn(2) == 0 {
			return strconv.Itoa(right)
		}
		return numbers[r.Intn(len(numbers))]
	}
	for range 60000 {
		text := []string{"\n", "fee 1\n", "", "a", "\n\n", "seal 10 10\n"}[r.Intn(6)]
		first, second := sumsOf(text)
		text += []string{"seal ", "seal ", "seal ", "seal", "Seal ", " seal ", "seals ", ""}[r.Intn(8)]
		text += number(first) + []string{" ", " ", " ", "  ", "\n", ""}[r.Intn(6)] + number(second)
		text += []string{"\n", "\n", "\n", "", " \n", "\n\n", " 1\n", "\r\n"}[r.Intn(8)]
		want, e := open(text)
		body, f := file.Open(text)
		if body != want || e != f {
			t.Fatalf("%q: %q, error %d, want %d", text, body, f, e)
		}
		if mended, at, g := file.Mend(text); e == api.OK && (mended != "" || at != 0 || g != api.ErrTwice) || e == api.ErrForm && (mended != "" || at != 0 || g != e) {
			t.Fatalf("%q: %q, %d, error %d", text, mended, at, g)
		}
		seen[e]++
	}
	if seen[api.OK] < 100 || seen[api.ErrFalse] < 100 || seen[api.ErrForm] < 1000 {
		t.Error("too few of a kind:", seen)
	}
	for _, text := range wrongForms() {
		if _, e := open(text); e != api.ErrForm {
			t.Errorf("%q: error %d", text, e)
		}
	}
}

// TestLongestTexts asks texts of about as many bytes as there can be.
func TestLongestTexts(t *testing.T) {
	for n := 4080; n < 4130; n++ {
		for _, last := range []string{"seal 1 1\n", "seal 65536 65536\n", "seal\n", "\n", "seal 1", ""} {
			text := strings.Repeat("a", n-1) + "\n" + last
			want, e := open(text)
			if body, f := file.Open(text); body != want || e != f {
				t.Errorf("%d bytes and %q: error %d, want %d", n, last, f, e)
			}
			if e == api.ErrFalse {
				e = api.ErrNone
			}
			if mended, at, f := file.Mend(text); mended != "" || at != 0 || f != e {
				t.Errorf("%d bytes and %q: error %d, want %d", n, last, f, e)
			}
		}
	}
}

// sameMend checks Mend of a text against all bytes at all places.
func sameMend(t *testing.T, text string) api.Errno {
	t.Helper()
	mended, at, e := file.Mend(text)
	all, found := mends(text)
	_, want := open(text)
	switch {
	case len(all) > 1:
		t.Fatalf("%q: %q", text, all)
	case want == api.OK:
		want = api.ErrTwice
	case want == api.ErrFalse && len(all) == 1:
		if mended != all[0] || at != found[0] || e != api.OK {
			t.Fatalf("%q: %q at %d, error %d, want %q at %d", text, mended, at, e, all[0], found[0])
		}
		return e
	case want == api.ErrFalse:
		want = api.ErrNone
	}
	if mended != "" || at != 0 || e != want {
		t.Fatalf("%q: %q at %d, error %d, want %d", text, mended, at, e, want)
	}
	return e
}

func TestExamplesOfMend(t *testing.T) {
	for i, x := range []struct {
		text, mended string
		at           int
		e            api.Errno
	}{
		{"fee 3\nseal 395 1040\n", "fee 1\nseal 395 1040\n", 4, api.OK},
		{"gee 1\nseal 395 1040\n", "fee 1\nseal 395 1040\n", 0, api.OK},
		{"f\ne 1\nseal 395 1040\n", "fee 1\nseal 395 1040\n", 1, api.OK},
		{"f\xffe 1\nseal 395 1040\n", "fee 1\nseal 395 1040\n", 1, api.OK},
		{"fee\x001\nseal 395 1040\n", "fee 1\nseal 395 1040\n", 3, api.OK},
		{"fee 1\nseal 395 1040\n", "", 0, api.ErrTwice},
		{"fee 1\nseal 396 1040\n", "", 0, api.ErrNone},
		{"fee 1\nseal 395 1041\n", "", 0, api.ErrNone},
		// the last byte of a body is no damaged one, even if the sums are those with another one
		{"fee 1\nseal 396 1046\n", "", 0, api.ErrNone},
		{"fee 1\nseal 396 1045\n", "fee 2\nseal 396 1045\n", 4, api.OK},
		{"fee 1\nseal 396 1047\n", "", 0, api.ErrNone},
		// and a byte has no more than 8 bits
		{"fee 1\nseal 548 1193\n", "\xffee 1\nseal 548 1193\n", 0, api.OK},
		{"fee 1\nseal 549 1194\n", "", 0, api.ErrNone},
		{"fee 1\nseal 293 938\n", "\x00ee 1\nseal 293 938\n", 0, api.OK},
		{"fee 1\nseal 292 937\n", "", 0, api.ErrNone},
		// sums go round
		{"fee 1\nseal 0 0\n", "", 0, api.ErrNone},
		{"\n\nseal 65536 65536\n", "", 0, api.ErrNone},
	} {
		mended, at, e := file.Mend(x.text)
		if e != x.e || e == api.OK && (mended != x.mended || at != x.at) {
			t.Errorf("%d: %q at %d, error %d", i, mended, at, e)
		}
		sameMend(t, x.text)
	}
}

// TestMendOfDamagedTexts damages small texts, and their seals.
func TestMendOfDamagedTexts(t *testing.T) {
	r := rand.New(rand.NewSource(7))
	seen := map[api.Errno]int{}
	for range 600 {
		text := []byte(sealed(someBody(r, 25)))
		for range 1 + r.Intn(2) {
			text[r.Intn(len(text))] = []byte{byte(r.Intn(256)), '0', '1', 'a', '\n'}[r.Intn(5)]
		}
		seen[sameMend(t, string(text))]++
	}
	for _, e := range []api.Errno{api.OK, api.ErrForm, api.ErrTwice, api.ErrNone} {
		if seen[e] < 20 {
			t.Error("too few texts with error", e, seen[e])
		}
	}
}

// TestMendOfEachByte damages texts in each way that leaves their last lines, and mends them again.
func TestMendOfEachByte(t *testing.T) {
	r := rand.New(rand.NewSource(8))
	for _, body := range []string{"\n", "a\n", "fee 1\n", "\x00\xff\n", "\n\n\n", "seal 10 10\n", someBody(r, 60)} {
		text := sealed(body)
		for i := range len(body) - 1 {
			for b := range 256 {
				damaged := text[:i] + string([]byte{byte(b)}) + text[i+1:]
				mended, at, e := file.Mend(damaged)
				if damaged == text {
					if e != api.ErrTwice {
						t.Fatalf("%q: error %d", damaged, e)
					}
				} else if mended != text || at != i || e != api.OK {
					t.Fatalf("%q: %q at %d, error %d, want %q at %d", damaged, mended, at, e, text, i)
				}
			}
		}
	}
	// the longest bodies, in which both sums go round
	for _, body := range []string{strings.Repeat("\xff", 4095) + "\n", strings.Repeat("\x00", 4095) + "\n", strings.Repeat("z", 4095) + "\n"} {
		text := sealed(body)
		for i := range 4095 {
			damaged := text[:i] + string([]byte{byte(r.Intn(200) + 1)}) + text[i+1:]
			if damaged == text {
				continue
			}
			if mended, at, e := file.Mend(damaged); mended != text || at != i || e != api.OK {
				t.Fatalf("place %d: %d, error %d", i, at, e)
			}
		}
	}
}
