package file_test

import (
	"math/rand"
	"slices"
	"strings"
	"testing"

	"oyez/api"
	"oyez/file"
)

// P11.1

func TestCheckAndPrint(t *testing.T) {
	full := many(40)
	for i, x := range []struct {
		f []file.Record
		e api.Errno
	}{
		{nil, api.OK},
		{records(rec(file.Notice, 3, "tide at six"), rec(file.Fee, 12, "")), api.OK},
		{records(rec(file.Stand, 0, ""), rec(file.Stand, 999, "0 a9 z"), rec(file.Notice, 0, ""), rec(file.Find, 0, ""), rec(file.Fee, 0, ""), rec(file.Plea, 0, "")), api.OK},
		{full, api.OK},
		{many(41), api.ErrCount},
		{append(many(40), file.Record{Kind: 9}), api.ErrCount},
		// as long as a line, a word and the number of words can be
		{records(file.Record{Kind: file.Find, Number: 1, Words: words(12, 12, 12, 12, 4)}), api.OK},
		{records(file.Record{Kind: file.Find, Number: 1, Words: words(12, 12, 12, 12, 5)}), api.OK},
		{records(file.Record{Kind: file.Find, Number: 1, Words: words(12, 12, 12, 12, 6)}), api.ErrLong},
		{records(file.Record{Kind: file.Find, Number: 10, Words: words(12, 12, 12, 12, 4)}), api.OK},
		{records(file.Record{Kind: file.Find, Number: 10, Words: words(12, 12, 12, 12, 5)}), api.ErrLong},
		{records(file.Record{Kind: file.Notice, Number: 1, Words: words(12, 12, 12, 12, 3)}), api.OK},
		{records(file.Record{Kind: file.Notice, Number: 1, Words: words(12, 12, 12, 12, 4)}), api.ErrLong},
		{records(file.Record{Kind: file.Fee, Number: 999, Words: words(12, 11, 10, 9, 8, 1)}), api.OK},
		{records(file.Record{Kind: file.Fee, Number: 999, Words: words(12, 11, 10, 9, 8, 2)}), api.ErrLong},
		{records(rec(file.Fee, 1, "a b c d e f")), api.OK},
		{records(rec(file.Fee, 1, "a b c d e f g")), api.ErrCount},
		{records(file.Record{Kind: file.Fee, Words: words(12)}), api.OK},
		{records(file.Record{Kind: file.Fee, Words: words(13)}), api.ErrForm},
		{records(file.Record{Kind: file.Fee, Words: words(0)}), api.ErrForm},
		// kinds decide the order before numbers do
		{records(rec(file.Stand, 9, ""), rec(file.Notice, 1, "")), api.OK},
		{records(rec(file.Notice, 1, ""), rec(file.Stand, 9, "")), api.ErrOrder},
		{records(rec(file.Notice, 1, ""), rec(file.Notice, 1, "")), api.ErrOrder},
		{records(rec(file.Notice, 1, ""), rec(file.Notice, 3, ""), rec(file.Notice, 2, "")), api.ErrOrder},
	} {
		text, e := file.Print(x.f)
		if f := file.Check(x.f); e != x.e || f != x.e {
			t.Error(i, e, f, x.e)
		}
		if x.e == api.OK && text != print(x.f) {
			t.Errorf("%d: %q", i, text)
		}
	}
	if text, e := file.Print(records(rec(file.Notice, 3, "tide at six"), rec(file.Fee, 12, ""))); text != "notice 3 tide at six\nfee 12\n" || e != api.OK {
		t.Errorf("%q, error %d", text, e)
	}
}

// TestEachByte asks all bytes, alone and ahead of, between and behind others.
func TestEachByte(t *testing.T) {
	for b := range 256 {
		want := api.ErrForm
		if c := byte(b); c >= 'a' && c <= 'z' || c >= '0' && c <= '9' {
			want = api.OK
		}
		one := string([]byte{byte(b)})
		for _, word := range []string{one, "a" + one, one + "z", "0" + one + "9", one + one} {
			if e := file.Check(records(file.Record{Kind: file.Fee, Number: 1, Words: []string{"tide", word}})); e != want {
				t.Errorf("%q: error %d, want %d", word, e, want)
			}
		}
	}
	for _, word := range []string{"é", "٣", "a\u0301", "\ufffd", "a\ufffd", "\xe2\x82", "ａ", "ß", "ſ", "K"} {
		if e := file.Check(records(file.Record{Words: []string{word}})); e != api.ErrForm {
			t.Errorf("%q: error %d", word, e)
		}
	}
}

func someRecord(r *rand.Rand) file.Record {
	kinds := []file.Kind{0, 1, 2, 3, 4, 4, 3, 2, 1, 0, -1, 5}
	numbers := []int{0, 1, 9, 10, 99, 100, 999, 1000, -1}
	x := file.Record{Kind: kinds[r.Intn(len(kinds))], Number: numbers[r.Intn(len(numbers))]}
	for range r.Intn(8) {
		word := strings.Repeat("b", 12-r.Intn(14)%13)
		if r.Intn(40) == 0 {
			word = []string{"", "B", "bbbbbbbbbbbbb", "b b"}[r.Intn(4)]
		}
		x.Words = append(x.Words, word)
	}
	return x
}

func TestRecordsOfAllKinds(t *testing.T) {
	r := rand.New(rand.NewSource(1))
	seen := map[api.Errno]int{}
	for range 40000 {
		f := records(rec(file.Notice, 10, "a"), someRecord(r))
		if r.Intn(4) == 0 {
			f = append(f, someRecord(r))
		}
		want := wrongFile(f)
		if e := file.Check(f); e != want {
			t.Fatalf("%v: error %d, want %d", f, e, want)
		}
		if text, e := file.Print(f); e != want || e == api.OK && text != print(f) {
			t.Fatalf("%q: error %d, want %d", text, e, want)
		}
		seen[want]++
	}
	for _, e := range []api.Errno{api.OK, api.ErrVerb, api.ErrRange, api.ErrCount, api.ErrForm, api.ErrLong, api.ErrOrder} {
		if seen[e] < 100 {
			t.Error("too few files with error", e, seen[e])
		}
	}
}

// samplePlaces are some at which there can be records, and some that are not right.
func samplePlaces(f []file.Record) []file.Place {
	all := places(at(-1, 0), at(5, 0), at(file.Stand, -1), at(file.Plea, 1000))
	for _, r := range f {
		all = append(all, at(r.Kind, r.Number), at(r.Kind, r.Number+1), at(r.Kind+1, r.Number), at(r.Kind, r.Number-1), at(r.Kind-1, r.Number))
	}
	return all
}

func TestGetAndDrop(t *testing.T) {
	someCopies(t, 300, 40, func(_ *rand.Rand, f, _, _ []file.Record) {
		for _, p := range samplePlaces(f) {
			words, e := file.Get(f, p)
			less, g := file.Drop(f, p)
			if there := what(f, p); there == "-" {
				if words != nil || less != nil || e != api.ErrAbsent || g != api.ErrAbsent {
					t.Error(p, words, less, e, g)
				}
				continue
			} else if said(true, words) != there || e != api.OK {
				t.Error(p, words, e)
			}
			want := made(f, changes(file.Change{Kind: p.Kind, Number: p.Number}))
			if told(less) != told(want) || g != api.OK {
				t.Error(p, less, g)
			}
		}
	})
}

func TestPut(t *testing.T) {
	for i, x := range []struct {
		f    []file.Record
		r    file.Record
		want []file.Record
		e    api.Errno
	}{
		{plea(), rec(file.Stand, 1, "quay"), records(rec(file.Stand, 1, "quay"), plea()[0], plea()[1]), api.OK},
		{plea(), rec(file.Notice, 3, "storm"), storm(), api.OK},
		{plea(), rec(file.Notice, 3, "tide"), plea(), api.OK},
		{plea(), rec(file.Notice, 2, ""), records(rec(file.Notice, 2, ""), plea()[0], plea()[1]), api.OK},
		{plea(), rec(file.Notice, 4, ""), records(plea()[0], rec(file.Notice, 4, ""), plea()[1]), api.OK},
		{plea(), rec(file.Plea, 1, ""), records(plea()[0], plea()[1], rec(file.Plea, 1, "")), api.OK},
		{nil, rec(file.Plea, 999, "a b c d e f"), records(rec(file.Plea, 999, "a b c d e f")), api.OK},
		{many(39), rec(file.Stand, 0, ""), append(records(rec(file.Stand, 0, "")), many(39)...), api.OK},
		{many(40), rec(file.Stand, 0, ""), nil, api.ErrCount},
		{many(40), rec(file.Plea, 0, ""), nil, api.ErrCount},
		{many(40), rec(file.Find, 78, "x"), many(40), api.OK},
		{many(40), rec(file.Find, 1, "A"), nil, api.ErrForm},
		{many(41), rec(9, 1, "A"), nil, api.ErrCount},
	} {
		if got, e := file.Put(x.f, x.r); told(got) != told(x.want) || e != x.e {
			t.Error(i, got, e)
		}
	}
}

// TestPutChangesOnePlace puts records of all kinds into files.
func TestPutChangesOnePlace(t *testing.T) {
	seen := map[api.Errno]int{}
	someCopies(t, 1000, 60, func(r *rand.Rand, f, _, _ []file.Record) {
		x := someRecord(r)
		want := wrongFile(f)
		if want == api.OK {
			want = wrongFile(records(x))
		}
		p := at(x.Kind, x.Number)
		if want == api.OK && len(f) == 40 && what(f, p) == "-" {
			want = api.ErrCount
		}
		got, e := file.Put(f, x)
		seen[want]++
		if e != want || e != api.OK && got != nil {
			t.Error(x, got, e, want)
		}
		if e != api.OK {
			return
		}
		for _, q := range slices.Concat(samplePlaces(f), places(p)) {
			if there := what(got, q); q == p && there != said(true, x.Words) || q != p && there != what(f, q) {
				t.Error(x, q, there)
			}
		}
		if e := wrongFile(got); e != api.OK || len(got) > len(f)+1 {
			t.Error(got, e)
		}
	})
	if seen[api.OK] < 200 || seen[api.ErrCount] < 10 {
		t.Error("too few of a kind:", seen)
	}
}
