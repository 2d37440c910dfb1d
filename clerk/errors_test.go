package clerk_test

import (
	"fmt"
	"math"
	"math/rand"
	"reflect"
	"slices"
	"strings"
	"testing"

	"oyez/api"
	"oyez/clerk"
)

// args is a line, and what was done before it.
type args struct {
	closed *clerk.Clerk // instead of one that has been opened, if there is none
	isOpen bool
	before []string
	full   bool
	verb   string
	words  []string
	tail   string
}

// fault makes something in the arguments wrong.
type fault struct {
	e  api.Errno
	do func(*args)
}

func (x args) clone() args {
	x.before, x.words = slices.Clone(x.before), slices.Clone(x.words)
	return x
}

// line returns the line of arguments.
func (x args) line() string {
	return strings.Join(append([]string{x.verb}, x.words...), " ") + x.tail
}

// clerk returns one in which all before the line was done.
func (x args) clerk(t *testing.T) *clerk.Clerk {
	if !x.isOpen {
		return x.closed
	}
	c := with(t, x.before...)
	for n := len(c.Journal()); x.full && x.before != nil && n < 60; n++ {
		if _, e := c.Do("air 0 5"); e != api.OK {
			t.Fatal(e)
		}
	}
	return c
}

// desk are lines with all that other lines ask for.
func desk() []string {
	return []string{
		"town shhs hssw", "link 0 1", "stand 0", "stand 3", "notice none not b", "back 0 a b c", "notice none a, b c d e f g h, i j", "cry 0 0",
		"criers 3 1 1 1", "round 0 1 0 1", "duty 1 0 1", "traits 1 2 3", "lost 5 1 x", "found 1 2",
	}
}

// set returns a fault that makes the words others.
func set(e api.Errno, words string) fault {
	return fault{e, func(x *args) { x.words = strings.Fields(words) }}
}

// put returns a fault that makes one word another one.
func put(e api.Errno, n int, word string) fault {
	return fault{e, func(x *args) { x.words[n] = word }}
}

// lines returns a fault that has other lines before.
func lines(e api.Errno, l ...string) fault {
	return fault{e, func(x *args) { x.before = l }}
}

// more returns a fault that has more lines before, in front of those that are there.
func more(e api.Errno, l ...string) fault { return lines(e, append(desk(), l...)...) }

// without returns a fault that leaves out the lines with some verbs.
func without(e api.Errno, verbs string) fault {
	var l []string
	for _, line := range desk() {
		if verb, _ := cut(line); !slices.Contains(strings.Fields(verbs), verb) {
			l = append(l, line)
		}
	}
	return lines(e, l...)
}

// call is a right line, and the faults of its row in the chapter's table, in their order.
type call struct {
	line   string
	faults []fault
}

// calls are those of all verbs.
func calls() []call {
	none := []fault{without(api.ErrNone, "notice back round cry"), without(api.ErrNone, "stand cry"), without(api.ErrNone, "notice back stand round cry")}
	back := func(verb string) call {
		return call{verb + " 2 a b", []fault{
			more(api.ErrCount, again(5, "notice none a")...),
			put(api.ErrAbsent, 0, "4"), put(api.ErrAbsent, 0, "999999"), set(api.ErrAbsent, "8 a b c d e f g h i j k l m"),
			put(api.ErrTwice, 0, "0"), more(api.ErrTwice, "notice 2 a"), set(api.ErrTwice, "0 aeiouaeiouaeiou"),
			set(api.ErrCount, "2 a b c d e f g h i j k l m"), set(api.ErrCount, "2 not not not not not not not a"), set(api.ErrCount, "2 aeiouaeiou b c d e f g h i j k l m"),
			set(api.ErrRange, "2 a aeiouaeiou"), set(api.ErrRange, "2 aeiouaeiouaeiouaeiou"),
			set(api.ErrNone, "2 aeiou aeiou"), set(api.ErrNone, "2 aeiouaeio"), set(api.ErrNone, "2 not, not, aeiou, not aeio aeio"),
		}}
	}
	return []call{
		{"town sh hs", []fault{
			lines(api.ErrTwice, "town sh"), lines(api.ErrTwice, desk()...),
			set(api.ErrFalse, "sh s"), set(api.ErrFalse, "s sh"), set(api.ErrFalse, "ss s"), set(api.ErrFalse, "shshshshs sh"), set(api.ErrFalse, "sh sh sh w"),
			set(api.ErrCount, "shshshs"), set(api.ErrCount, "hhhhhh hhhhhh"), set(api.ErrCount, "sssssss"), set(api.ErrCount, strings.Repeat("s ", 31)),
			set(api.ErrNone, "s"), set(api.ErrNone, "sw ws"),
		}},
		{"air 4 40", []fault{put(api.ErrRange, 0, "5"), put(api.ErrRange, 0, "999999"), put(api.ErrRange, 1, "0"), put(api.ErrRange, 1, "41"), put(api.ErrRange, 1, "999999")}},
		{"link 0 2", []fault{
			lines(api.ErrCount, append([]string{row()}, ring()...)...),
			put(api.ErrAbsent, 0, "10"), put(api.ErrAbsent, 1, "10"), set(api.ErrAbsent, "11 11"), put(api.ErrAbsent, 0, "999999"),
			set(api.ErrFalse, "0 0"), set(api.ErrFalse, "2 2"),
			set(api.ErrTwice, "0 1"), set(api.ErrTwice, "1 0"), more(api.ErrTwice, "link 0 2"), more(api.ErrTwice, "link 2 0"),
		}},
		{"stand 3", []fault{
			more(api.ErrCount, again(4, "stand 0")...),
			put(api.ErrAbsent, 0, "8"), put(api.ErrAbsent, 0, "999999"), put(api.ErrFalse, 0, "1"), put(api.ErrFalse, 0, "7"),
		}},
		back("notice"), back("back"),
		{"cry 2 1", []fault{
			more(api.ErrCount, again(15, "cry 0 0")...),
			put(api.ErrAbsent, 0, "3"), put(api.ErrAbsent, 1, "2"), set(api.ErrAbsent, "999999 999999"), without(api.ErrAbsent, "notice back round cry"), without(api.ErrAbsent, "stand cry"),
		}},
		{"criers 2 1 1 1", []fault{
			more(api.ErrClash), more(api.ErrClash, "round 1 1 0"),
			put(api.ErrCount, 0, "0"), put(api.ErrCount, 0, "5"), set(api.ErrCount, "0 21 21 21"),
			put(api.ErrRange, 1, "21"), put(api.ErrRange, 2, "21"), put(api.ErrRange, 3, "999999"),
		}},
		{"round 1 5 0 2", []fault{
			without(api.ErrAbsent, "criers round duty"), put(api.ErrAbsent, 0, "3"), without(api.ErrAbsent, "notice back round cry"),
			more(api.ErrCount, again(6, "round 0 1 0")...),
			put(api.ErrRange, 0, "2"), put(api.ErrRange, 1, "0"), put(api.ErrRange, 1, "6"), set(api.ErrRange, "2 1 9"), set(api.ErrRange, "1 6 2 0"),
			put(api.ErrAbsent, 3, "3"), set(api.ErrAbsent, "1 1 2 1 3"), set(api.ErrAbsent, "1 1 999999"),
			set(api.ErrOrder, "1 1 1 0"), set(api.ErrOrder, "1 1 0 0"),
		}},
		{"pay 1 60 3", []fault{
			without(api.ErrNone, "round"), without(api.ErrNone, "criers round duty"),
			set(api.ErrCount, "0 0"), set(api.ErrCount, "0 0 0 0"), set(api.ErrCount, "61 61"),
			put(api.ErrRange, 0, "61"), put(api.ErrRange, 2, "999999"),
		}},
		{"duty 2 0 2", []fault{
			without(api.ErrAbsent, "criers round duty"),
			more(api.ErrCount, again(5, "duty 1 0")...),
			put(api.ErrRange, 0, "0"), put(api.ErrRange, 0, "4"), set(api.ErrRange, "4 3 2"), set(api.ErrRange, "9 0 0"),
			put(api.ErrAbsent, 2, "3"), set(api.ErrAbsent, "2 1 0 3"), set(api.ErrAbsent, "3 3"),
			set(api.ErrOrder, "2 2 0"), set(api.ErrOrder, "1 0 0"), set(api.ErrOrder, "3 1 0"),
			put(api.ErrNone, 0, "3"), set(api.ErrNone, "2 1"),
		}},
		{"traits 0 1 9", []fault{
			more(api.ErrClash), without(api.ErrClash, "lost"), without(api.ErrClash, "found"),
			set(api.ErrCount, "0 1 1 1 1 1 1"), set(api.ErrCount, "4 0 1 1 1 1 1"),
			put(api.ErrRange, 0, "4"), put(api.ErrRange, 1, "0"), put(api.ErrRange, 2, "10"),
		}},
		{"lost 99 5 x", []fault{
			without(api.ErrAbsent, "traits lost found"),
			more(api.ErrCount, again(5, "lost 1 1 1")...), set(api.ErrCount, "1 1"), set(api.ErrCount, "1 1 1 x"), set(api.ErrCount, "100 6"),
			put(api.ErrRange, 0, "100"), put(api.ErrRange, 1, "6"), put(api.ErrRange, 2, "999999"),
		}},
		{"found 5 x", []fault{
			without(api.ErrAbsent, "traits lost found"),
			more(api.ErrCount, again(5, "found 1 1")...), set(api.ErrCount, "1"), set(api.ErrCount, "1 1 x"), set(api.ErrCount, "6"),
			put(api.ErrRange, 0, "6"), put(api.ErrRange, 1, "999999"),
		}},
		{"hand", []fault{without(api.ErrAbsent, "traits lost found"), without(api.ErrNone, "lost"), more(api.ErrNone, "hand"), more(api.ErrNone, "lost 1 1 x")}},
		{"left 12", append(slices.Clone(none), put(api.ErrRange, 0, "13"), put(api.ErrRange, 0, "999999"))},
		{"holds 12 2", append(slices.Clone(none), put(api.ErrRange, 0, "13"), set(api.ErrRange, "13 9"), put(api.ErrAbsent, 1, "3"), put(api.ErrAbsent, 1, "999999"))},
		{"mend 0 0 1", append(slices.Clone(none),
			put(api.ErrRange, 0, "13"), set(api.ErrRange, "99 9 9"),
			put(api.ErrAbsent, 1, "3"), set(api.ErrAbsent, "0 0 0 999999"), set(api.ErrAbsent, "0 5 5"),
			set(api.ErrTwice, "0 0 0"), set(api.ErrTwice, "0 1 0 1"),
			lines(api.ErrNone, "town hs", "air 0 1", "stand 1", "stand 1", "air 0 5", "stand 1", "notice none a", "notice 0 a", "cry 0 2"), set(api.ErrNone, "0 1"),
		)},
		{"joins", []fault{without(api.ErrAbsent, "traits lost found")}},
		{"load", []fault{without(api.ErrAbsent, "criers round duty"), without(api.ErrNone, "duty")}},
		{"paid", nil},
		{"seal", []fault{lines(api.ErrForm, "town sh"), without(api.ErrForm, "stand notice back cry round duty lost found")}},
	}
}

// good returns right arguments of a call.
func (c call) good() args {
	verb, words := cut(c.line)
	x := args{isOpen: true, before: desk(), verb: verb, words: words}
	switch verb {
	case "town":
		x.before = nil
	case "criers":
		x.before = slices.DeleteFunc(desk(), func(s string) bool { return strings.HasPrefix(s, "round") })
	case "traits":
		x.before = slices.DeleteFunc(desk(), func(s string) bool { return strings.HasPrefix(s, "lost") || strings.HasPrefix(s, "found") })
	}
	return x
}

// all returns all faults of a call, in the order of the chapter's table.
func (c call) all() []fault {
	verb, words := cut(c.line)
	l := []fault{
		{api.ErrAbsent, func(x *args) { x.isOpen = false }},
		{api.ErrAbsent, func(x *args) { x.isOpen, x.closed = false, new(clerk.Clerk) }},
		{api.ErrLong, func(x *args) { x.tail = strings.Repeat(" ", 100) }},
		{api.ErrLong, func(x *args) { x.verb = strings.Repeat("a", 81) }},
		{api.ErrForm, func(x *args) { x.tail = " " }},
		{api.ErrForm, func(x *args) { x.tail = "  0" }},
		{api.ErrForm, func(x *args) { x.verb = " " + verb }},
		{api.ErrForm, func(x *args) { x.verb, x.words, x.tail = "", nil, "" }},
		{api.ErrVerb, func(x *args) { x.verb = "sing" }},
		{api.ErrVerb, func(x *args) { x.verb = strings.ToUpper(verb) }},
		{api.ErrVerb, func(x *args) { x.verb = verb + "," }},
	}
	if len(words) > 0 {
		l = append(l, set(api.ErrForm, ""))
		for n := range words {
			for _, w := range []string{"01", "1000000", "-1", "A1", ",", "é"} {
				l = append(l, put(api.ErrForm, n, w))
			}
		}
	}
	l = append(l, fault{api.ErrForm, func(x *args) { x.words = append(x.words, "?") }})
	if verb != "town" {
		l = append(l, lines(api.ErrAbsent))
	}
	if !slices.Contains(asking(), verb) {
		l = append(l, fault{api.ErrCount, func(x *args) {
			if x.before == nil {
				x.before = desk()
			}
			x.full = true
		}})
	}
	return append(l, c.faults...)
}

// expect checks that a line has an error.
func expect(t *testing.T, c *clerk.Clerk, x args, e api.Errno, what string) {
	t.Helper()
	if s, f := c.Do(x.line()); s != "" || f != e {
		t.Errorf("%s: %q behind %q: %q %d, not %d", what, x.line(), x.before, s, f, e)
	}
}

func TestRightCalls(t *testing.T) {
	for _, c := range calls() {
		x := c.good()
		k := x.clerk(t)
		if _, e := k.Do(x.line()); e != api.OK {
			t.Error(x.line(), e)
		}
	}
}

func TestEachErrorAlone(t *testing.T) {
	for _, c := range calls() {
		for n, f := range c.all() {
			x := c.good()
			f.do(&x)
			k := x.clerk(t)
			before := print(k)
			expect(t, k, x, f.e, fmt.Sprint("fault ", n))
			if print(k) != before {
				t.Errorf("%q with error %d did something: %s, was %s", x.line(), f.e, print(k), before)
			}
		}
	}
}

// TestOrderOfErrors makes two faults at once: the one that is named first decides.
func TestOrderOfErrors(t *testing.T) {
	for _, c := range calls() {
		l := c.all()
		for n, first := range l {
			for m, second := range l[n+1:] {
				x := c.good()
				ok := func() (ok bool) {
					defer func() { ok = recover() == nil }()
					second.do(&x)
					first.do(&x)
					return true
				}()
				if ok {
					expect(t, x.clerk(t), x, first.e, fmt.Sprint("faults ", n, " and ", n+1+m))
				}
			}
		}
	}
}

func TestOrderOfOtherErrors(t *testing.T) {
	if l, e := clerk.Words(strings.Repeat(" ", 81)); l != nil || e != api.ErrLong {
		t.Error(l, e)
	}
	if c, n, e := clerk.Replay([]string{"town sh", "paid", "air 9 9", "link 0 0", "sing", "", strings.Repeat("a", 81)}); c != nil || n != 2 || e != api.ErrRange {
		t.Error(n, e)
	}
	if s, e := clerk.Run(strings.Repeat("town sh\n", 8193)); s != "" || e != api.ErrLong {
		t.Error(s, e)
	}
}

// odd are lines, and parts of lines, that nobody would write.
func odd() []string {
	l := []string{"", " ", "\n", "\x00", "\xff\xfe", "é", strings.Repeat("a", 80), strings.Repeat("é", 40), strings.Repeat("0 ", 40), strings.Repeat("9", 1<<16), strings.Repeat(" ", 1<<20)}
	for verb := range forms() {
		for _, s := range []string{"", " 0", " 0 0", " 0 0 0", " 999999", " 999999 999999", " none none", " none not", " not not", " x x x", strings.Repeat(" 0", 36), strings.Repeat(" 9", 36), strings.Repeat(" a", 36), strings.Repeat(" s", 37), " " + strings.Repeat("h", 70), " none " + strings.Repeat("a", 60), " \x00", " \xff", "\n"} {
			l = append(l, verb+s)
		}
	}
	slices.Sort(l)
	return l
}

func TestNothingPanics(t *testing.T) {
	opened := with(t, desk()...)
	assigned := *opened
	for _, c := range []*clerk.Clerk{nil, new(clerk.Clerk), &assigned, clerk.New(), with(t, "town sh"), opened, with(t, whole()...)} {
		for _, line := range odd() {
			if s, e := c.Do(line); e != api.OK && s != "" {
				t.Errorf("%q: %q beside error %d", line, s, e)
			}
			print(c)
		}
		for _, n := range []int{math.MinInt, -1, 0, 8, math.MaxInt} {
			c.Text(n)
		}
		print(c.Copy())
	}
	for _, line := range odd() {
		clerk.Words(line)
		clerk.Run(line)
		clerk.Replay([]string{line})
		clerk.Replay([]string{"town sh", line})
		clerk.Run("town sh\n" + line)
	}
	some(200, func(r *rand.Rand) {
		b := make([]byte, r.Intn(3000))
		for n := range b {
			b[n] = "\n\n  0123none airlinkstandtownshw,"[r.Intn(33)]
		}
		clerk.Run(string(b))
		clerk.Replay(strings.Split(string(b), "\n"))
	})
}

// results are all that a clerk tells.
func results(c *clerk.Clerk) []any {
	town, _, _ := c.Town()
	n, cries, _ := c.News()
	first, _ := c.Text(0)
	second, _ := c.Text(1)
	desk, _ := c.Desk()
	box, _ := c.Box()
	roll, _ := c.Roll()
	words, _ := clerk.Words("a b c")
	return []any{town, n, cries, first, second, desk, box, roll, c.Paid(), c.File(), c.Journal(), words}
}

// memory returns all lists that a value has, or that are in its lists.
func memory(v reflect.Value) []reflect.Value {
	var all []reflect.Value
	switch v.Kind() {
	case reflect.Interface, reflect.Pointer:
		return memory(v.Elem())
	case reflect.Slice:
		all = append(all, v)
		for i := range v.Len() {
			all = append(all, memory(v.Index(i))...)
		}
	case reflect.Struct:
		for i := range v.NumField() {
			if v.Type().Field(i).Name != "self" {
				all = append(all, memory(v.Field(i))...)
			}
		}
	}
	return all
}

// meets reports whether two lists share memory, up to what lies behind their ends.
func meets(a, b reflect.Value) bool {
	from, to := a.Pointer(), a.Pointer()+uintptr(a.Cap())*a.Type().Elem().Size()
	start, end := b.Pointer(), b.Pointer()+uintptr(b.Cap())*b.Type().Elem().Size()
	return a.Cap() > 0 && b.Cap() > 0 && from < end && start < to
}

// TestResultsShareNoMemory also looks at what clerks and their copies have themselves.
func TestResultsShareNoMemory(t *testing.T) {
	c := with(t, desk()...)
	replayed, _, _ := clerk.Replay(c.Journal())
	of := func(x any) []reflect.Value { return memory(reflect.ValueOf(x)) }
	groups := [][]reflect.Value{of(c), of(c.Copy()), of(c.Copy()), of(replayed), of(results(c)), of(results(c)), of(results(replayed))}
	for n, a := range groups {
		if len(a) < 15 {
			t.Error("too few lists:", n, len(a))
		}
		for i, x := range a {
			for _, y := range slices.Concat(a[i+1:], slices.Concat(groups[n+1:]...)) {
				if meets(x, y) {
					t.Error(n, "lists share memory:", x, y)
				}
			}
		}
	}
}

func TestResultsCanBeChanged(t *testing.T) {
	c := with(t, desk()...)
	before := print(c)
	for _, r := range results(c) {
		for _, l := range memory(reflect.ValueOf(r)) {
			l.Clear()
		}
	}
	if print(c) != before {
		t.Error(print(c), before)
	}
	check(t, c, "left 0", "0 0 2 0", api.OK)
	check(t, c, "round 2 1 0", "", api.ErrRange)
}

// TestArgumentsStay passes lists with something behind their ends.
func TestArgumentsStay(t *testing.T) {
	l := append(whole(), "end")
	before := slices.Clone(l)
	c, n, e := clerk.Replay(l[:len(l)-1])
	if n != len(l)-1 || e != api.OK || !slices.Equal(l, before) {
		t.Error(n, e, l)
	}
	clear(l)
	if print(c) != print(with(t, whole()...)) {
		t.Error("the clerk changes with the lines that were passed to Replay")
	}
}

func TestEmptyListsAreTheSame(t *testing.T) {
	c, n, e := clerk.Replay(nil)
	d, m, f := clerk.Replay([]string{})
	if print(c) != print(d) || n != m || e != f {
		t.Error(n, e, m, f)
	}
}

// TestNothingIsKept lets other clerks work between the lines of one.
func TestNothingIsKept(t *testing.T) {
	c, d := clerk.New(), done(nil)
	for _, line := range whole() {
		other := with(t, desk()...)
		other.Do("cry 1 1")
		clerk.Run("town hh\nsing\nnotice none a\n")
		clerk.Replay(example())
		next, s, e := d.after(line)
		check(t, c, line, s, e)
		d = next
		same(t, c, d)
	}
}
