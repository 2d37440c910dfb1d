package file_test

import (
	"math/rand"
	"slices"
	"strings"
	"testing"

	"oyez/api"
	"oyez/file"
)

// P11.6 and P0.12

func TestFilesAreToldAgainByteForByte(t *testing.T) {
	right := 0
	someCopies(t, 1000, 70, func(r *rand.Rand, f, _, _ []file.Record) {
		text, e := file.Print(f)
		if e != api.OK {
			if e != api.ErrCount || len(f) <= file.MaxRecords {
				t.Error(e)
			}
			return
		}
		right++
		again, line, word, e := file.Parse(text)
		if told(again) != told(f) || line != 0 || word != 0 || e != api.OK {
			t.Error(again, line, word, e)
		}
		// and what is parsed is printed as the same text
		if i := r.Intn(len(text) + 1); i < len(text) {
			text = text[:i] + " 01a\n"[r.Intn(5):][:1] + text[i+1:]
		}
		if g, _, _, e := file.Parse(text); e == api.OK {
			if same, e := file.Print(g); same != text || e != api.OK {
				t.Errorf("%q, error %d", same, e)
			}
		}
	})
	if right < 500 {
		t.Error("too few files that are right:", right)
	}
}

func TestChangesThatAreTakenBackLeaveTheFile(t *testing.T) {
	someCopies(t, 1000, 40, func(_ *rand.Rand, base, a, _ []file.Record) {
		l, e := file.Diff(base, a)
		back, f := file.Back(l)
		if e != api.OK || f != api.OK {
			t.Error(e, f)
		}
		there, e := file.Make(base, l)
		again, f := file.Make(there, back)
		if told(there) != told(a) || told(again) != told(base) || e != api.OK || f != api.OK {
			t.Error(there, again, e, f)
		}
		if nothing, e := file.After(l, back); len(nothing) > 0 || e != api.OK {
			t.Error(nothing, e)
		}
		if twice, e := file.Back(back); toldChanges(twice) != toldChanges(l) || e != api.OK {
			t.Error(twice, e)
		}
	})
}

func TestTheOrderOfCopiesDoesNotMatter(t *testing.T) {
	someCopies(t, 1000, 45, func(r *rand.Rand, base, a, b []file.Record) {
		f, found, e := file.Join(base, a, b)
		g, others, h := file.Join(base, b, a)
		if told(f) != told(g) || !slices.Equal(found, others) || e != h {
			t.Error(f, g, found, others, e, h)
		}
		if e != api.OK {
			return
		}
		first, second := make([]bool, len(found)), make([]bool, len(found))
		for i := range found {
			first[i] = r.Intn(2) == 1
			second[i] = !first[i]
		}
		x, e := file.Settle(base, a, b, first)
		y, h := file.Settle(base, b, a, second)
		if told(x) != told(y) || e != h {
			t.Error(x, y, e, h)
		}
		// each place where both copies changed otherwise is named, and no other one
		for _, p := range placesOf(base, a, b) {
			both := what(base, p) != what(a, p) && what(base, p) != what(b, p) && what(a, p) != what(b, p)
			if both != slices.Contains(found, p) || both && what(f, p) != what(base, p) {
				t.Error(p, found)
			}
		}
	})
}

func TestACopyThatDidNotChangeIsJoined(t *testing.T) {
	someCopies(t, 1000, 40, func(_ *rand.Rand, base, a, _ []file.Record) {
		f, found, e := file.Join(base, base, a)
		g, others, h := file.Join(base, a, base)
		if told(f) != told(a) || told(g) != told(a) || len(found) > 0 || len(others) > 0 || e != api.OK || h != api.OK {
			t.Error(f, g, found, others, e, h)
		}
		if f, e := file.Settle(base, a, base, nil); told(f) != told(a) || e != api.OK {
			t.Error(f, e)
		}
	})
}

func TestADamagedByteIsMended(t *testing.T) {
	damages := 0
	someCopies(t, 1000, 40, func(r *rand.Rand, f, _, _ []file.Record) {
		if len(f) == 0 {
			return
		}
		body, _ := file.Print(f)
		text, e := file.Seal(body)
		if e != api.OK {
			t.Error(e)
		}
		i, b := r.Intn(len(body)), byte(r.Intn(256))
		wrong := []byte(text)
		wrong[i] = b
		mended, at, e := file.Mend(string(wrong))
		switch {
		case i == len(body)-1 && b != '\n':
			// without this line feed the seal is no line of its own
			if mended != "" || e != api.ErrForm {
				t.Error(i, mended, e)
			}
		case string(wrong) == text:
			if mended != "" || e != api.ErrTwice {
				t.Error(i, mended, e)
			}
		default:
			damages++
			if mended != text || at != i || e != api.OK {
				t.Error(i, b, mended, at, e)
			}
		}
		back, e := file.Open(text)
		if again, _, _, g := file.Parse(back); told(again) != told(f) || e != api.OK || g != api.OK {
			t.Error(again, e, g)
		}
	})
	if damages < 500 {
		t.Error("too few damages:", damages)
	}
}

// TestSealedTextsDifferInMore tries all single bytes of short sealed texts: what differs from one in a byte that is not in the
// last line is not sealed.
func TestSealedTextsDifferInMore(t *testing.T) {
	for _, body := range []string{"\n", "\n\n", "a\n", "fee 1\n", "seal 10 10\n", "fee 1\nseal 395 1040\n", "\n" + strings.Repeat("seal 0 0\n", 3)} {
		text, _ := file.Seal(body)
		for i := range len(body) {
			for b := range 256 {
				other := text[:i] + string([]byte{byte(b)}) + text[i+1:]
				if _, e := file.Open(other); (e == api.OK) != (other == text) {
					t.Errorf("%q and %q: error %d", text, other, e)
				}
			}
		}
	}
}
