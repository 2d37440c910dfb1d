package clerk_test

import (
	"fmt"
	"maps"
	"math/rand"
	"regexp"
	"slices"
	"strconv"
	"strings"
	"testing"

	"oyez/api"
	"oyez/clerk"
	"oyez/fee"
	"oyez/file"
	"oyez/find"
	"oyez/hear"
	"oyez/news"
	"oyez/slot"
	"oyez/text"
)

// done is all lines that were done, but those that only ask. What is there is found in them each time anew: nothing else is
// kept from line to line.
type done []string

// forms are those of all lines, behind the verb.
func forms() map[string]string {
	const n, word, value = ` (0|[1-9][0-9]{0,5})`, ` [a-z]+,?`, ` (x|0|[1-9][0-9]{0,5})`
	const after = ` (none|0|[1-9][0-9]{0,5})`
	more := func(s string) string { return "(" + s + ")+" }
	return map[string]string{
		"town": more(` [shw]+`), "air": n + n, "link": n + n, "stand": n,
		"notice": after + more(word), "back": after + more(word), "cry": n + n,
		"criers": n + n + n + n, "round": n + n + more(n), "pay": more(n), "duty": n + more(n),
		"traits": n + more(n), "lost": n + more(value), "found": more(value), "hand": "",
		"left": n, "holds": n + n, "mend": n + more(n), "joins": "", "load": "", "paid": "", "seal": "",
	}
}

// verbs are those of all lines, in order.
func verbs() []string { return slices.Sorted(maps.Keys(forms())) }

// asking are the verbs of the lines that only ask.
func asking() []string {
	return []string{"left", "holds", "mend", "joins", "load", "paid", "seal"}
}

// patterns are the forms as they are looked for.
var patterns = func() map[string]*regexp.Regexp {
	all := map[string]*regexp.Regexp{}
	for verb, form := range forms() {
		all[verb] = regexp.MustCompile(`\A` + form + `\z`)
	}
	return all
}()

// cut returns the verb of a line, and its other words.
func cut(line string) (string, []string) {
	l := strings.Split(line, " ")
	return l[0], l[1:]
}

// of returns the words of all lines with one of some verbs.
func (d done) of(verbs ...string) [][]string {
	var all [][]string
	for _, line := range d {
		if verb, l, _ := strings.Cut(line, " "); slices.Contains(verbs, verb) {
			all = append(all, strings.Fields(l))
		}
	}
	return all
}

// since returns the lines from the last one with a verb on, none if there is none.
func (d done) since(verb string) done {
	for n := len(d) - 1; n >= 0; n-- {
		if v, _, _ := strings.Cut(d[n], " "); v == verb {
			return d[n:]
		}
	}
	return nil
}

// ints are the numbers that words are: -1 for none and x.
func ints(words []string) []int {
	var l []int
	for _, w := range words {
		if w == "none" || w == "x" {
			w = "-1"
		}
		n, err := strconv.Atoi(w)
		if err != nil {
			panic(w)
		}
		l = append(l, n)
	}
	return l
}

// townOf returns a town of rows.
func townOf(rows []string) hear.Town {
	t := hear.Town{Wide: len(rows[0])}
	for _, c := range strings.Join(rows, "") {
		t.Plots = append(t.Plots, map[rune]hear.Plot{'s': hear.Street, 'h': hear.House, 'w': hear.Wall}[c])
	}
	return t
}

func (d done) hasTown() bool { return len(d.of("town")) > 0 }

func (d done) town() hear.Town { return townOf(d.of("town")[0]) }

func (d done) air() hear.Air {
	if l := d.since("air"); l != nil {
		n := ints(l.of("air")[0])
		return hear.Air{Wind: hear.Dir(n[0]), Voice: n[1]}
	}
	return hear.Air{Wind: hear.Calm, Voice: 5}
}

// houses returns the plots of all houses.
func (d done) houses() []int {
	var l []int
	for n, c := range strings.Join(d.of("town")[0], "") {
		if c == 'h' {
			l = append(l, n)
		}
	}
	return l
}

// stands returns who hears each stand, in the air of its line.
func (d done) stands() [][]int {
	var all [][]int
	for n, line := range d {
		if plot, is := strings.CutPrefix(line, "stand "); is {
			all = append(all, d[:n].heard(ints([]string{plot})[0]))
		}
	}
	return all
}

// heard returns the houses that hear a stand now.
func (d done) heard(plot int) []int {
	needs := loudness(d.of("town")[0], int(d.air().Wind), plot)
	var l []int
	for n, house := range d.houses() {
		if needs[house] <= d.air().Voice {
			l = append(l, n)
		}
	}
	return l
}

// never is a loudness that no voice has.
const never = 1000

// loudness returns what a cry at a stand needs to each plot, by going from plot to plot until no plot needs less.
func loudness(rows []string, wind, stand int) []int {
	wide, plots := len(rows[0]), strings.Join(rows, "")
	needs := slices.Repeat([]int{never}, len(plots))
	needs[stand] = 0
	for range plots {
		for from := range plots {
			// North, east, south, and west, in the order of the winds.
			for dir, step := range [][2]int{{0, -1}, {1, 0}, {0, 1}, {-1, 0}} {
				x, y := from%wide+step[0], from/wide+step[1]
				if x < 0 || x >= wide || y < 0 || y >= len(rows) || rows[y][x] == 'w' {
					continue
				}
				need := 2
				switch wind {
				case dir + 1:
					need = 1
				case (dir+2)%4 + 1:
					need = 4
				}
				if rows[y][x] == 'h' {
					need++
				}
				needs[y*wide+x] = min(needs[y*wide+x], needs[from]+need)
			}
		}
	}
	return needs
}

func (d done) news() (news.News, []news.Cry) {
	n := news.News{Houses: len(d.houses()), Stands: d.stands()}
	var cries []news.Cry
	for _, l := range d.of("link") {
		n.Links = append(n.Links, [2]int(ints(l)))
	}
	for _, line := range d {
		if verb, l, _ := strings.Cut(line, " "); verb == "notice" || verb == "back" {
			n.Notices = append(n.Notices, news.Notice{After: ints(strings.Fields(l)[:1])[0], Back: verb == "back"})
		}
	}
	for _, l := range d.of("cry") {
		cries = append(cries, news.Cry{Notice: ints(l)[0], Stand: ints(l)[1]})
	}
	return n, cries
}

// textOf returns the text of words.
func textOf(words []string) text.Text {
	t := text.Text{Breath: 8}
	for n, w := range words {
		bare := strings.ReplaceAll(w, ",", "")
		syllables := 0
		for _, vowel := range []string{"a", "e", "i", "o", "u", "y"} {
			syllables += strings.Count(bare, vowel)
		}
		if syllables == 0 {
			syllables = 1
		}
		weight := len(bare)
		if weight > 20 {
			weight = 20
		}
		t.Words = append(t.Words, text.Word{Syllables: syllables, Weight: weight, Stop: bare != w})
		if w == "not" && n+1 != len(words) {
			t.Turns = append(t.Turns, text.Turn{Word: n, Core: api.Span{Lo: n + 1, Hi: n + 1}})
		}
	}
	return t
}

func (d done) texts() []text.Text {
	var all []text.Text
	for _, l := range d.of("notice", "back") {
		all = append(all, textOf(l[1:]))
	}
	return all
}

// box returns the box, and the notice of each round. It has no criers if there are none.
func (d done) box() (fee.Box, []int) {
	hired := d.since("criers")
	if hired == nil {
		return fee.Box{}, nil
	}
	n := ints(hired.of("criers")[0])
	b := fee.Box{Criers: n[0], Word: n[1], Stand: n[2], Fine: n[3]}
	if l := hired.since("pay"); l != nil {
		hired = l
	}
	var cried []int
	for _, l := range hired.of("round") {
		n := ints(l)
		b.Rounds = append(b.Rounds, fee.Round{Words: len(d.of("notice", "back")[n[0]]) - 1, Stands: n[1], May: n[2:]})
		cried = append(cried, n[0])
	}
	return b, cried
}

// share returns that with the least greatest fee, the first of several, by trying all.
func share(b fee.Box) []int {
	var best, s []int
	least := -1
	var try func(fees []int)
	try = func(fees []int) {
		if len(s) == len(b.Rounds) {
			if most := slices.Max(fees); least < 0 || most < least {
				best, least = slices.Clone(s), most
			}
			return
		}
		r := b.Rounds[len(s)]
		for _, crier := range r.May {
			fees, s = slices.Clone(fees), append(s, crier)
			fees[crier] += r.Stands * (r.Words*b.Word + b.Stand)
			try(fees)
			fees[crier] -= r.Stands * (r.Words*b.Word + b.Stand)
			s = s[:len(s)-1]
		}
	}
	try(make([]int, b.Criers))
	return best
}

// payment returns what each crier gets for a box, and how much less this is.
func payment(b fee.Box, late []int) (gets []int, less int) {
	gets = make([]int, b.Criers)
	for n, crier := range share(b) {
		r := b.Rounds[n]
		gets[crier] += r.Stands * (r.Words*b.Word + b.Stand)
	}
	for crier, minutes := range late {
		fine := min(gets[crier], minutes*b.Fine)
		gets[crier] -= fine
		less += fine
	}
	return gets, less
}

func (d done) paid() []int {
	hired := d.since("criers")
	if hired == nil {
		return nil
	}
	paid := make([]int, ints(hired.of("criers")[0])[0])
	from := len(d) - len(hired)
	for n, line := range hired {
		if late, is := strings.CutPrefix(line, "pay "); is {
			b, _ := d[:from+n].box()
			gets, _ := payment(b, ints(strings.Fields(late)))
			for crier, pence := range gets {
				paid[crier] += pence
			}
		}
	}
	return paid
}

func (d done) roll() slot.Roll {
	b, _ := d.box()
	r := slot.Roll{Men: b.Criers}
	for _, l := range d.since("criers").of("duty") {
		r.Notices = append(r.Notices, slot.Notice{Times: ints(l)[0], Men: ints(l)[1:]})
	}
	return r
}

// desk returns what was lost and found. It has no weights if there are no traits.
func (d done) desk() find.Desk {
	var x find.Desk
	for _, line := range d.since("traits") {
		verb, l := cut(line)
		switch verb {
		case "traits":
			x.Slips, x.Weights = ints(l)[0], ints(l)[1:]
		case "lost":
			x.Rewards, x.Lost = append(x.Rewards, ints(l)[0]), append(x.Lost, ints(l)[1:])
		case "found":
			x.Found = append(x.Found, ints(l))
		case "hand":
			x, _, _ = handed(x)
		}
	}
	return x
}

// best is what is known of best joins: their worth, how many they are, their greatest reward, and how many of them join two
// things.
type best struct {
	worth, many, reward int
	join                map[[2]int]int
}

// agreement returns that of two things, and whether they can be joined.
func agreement(x find.Desk, lost, found int) (int, bool) {
	sum, slips := 0, 0
	for n, weight := range x.Weights {
		switch a, b := x.Lost[lost][n], x.Found[found][n]; {
		case a < 0 || b < 0:
		case a == b:
			sum += weight
		default:
			slips++
		}
	}
	return sum, sum > 0 && slips <= x.Slips
}

// bestJoins tries all joins.
func bestJoins(x find.Desk) best {
	b := best{}
	var joined [][2]int
	var try func(lost, worth, reward, taken int)
	try = func(lost, worth, reward, taken int) {
		if lost < len(x.Lost) {
			try(lost+1, worth, reward, taken)
			for found := range x.Found {
				if sum, can := agreement(x, lost, found); can && taken>>found&1 == 0 {
					joined = append(joined, [2]int{lost, found})
					try(lost+1, worth+sum, reward+x.Rewards[lost], taken|1<<found)
					joined = joined[:len(joined)-1]
				}
			}
			return
		}
		if worth < b.worth {
			return
		}
		if worth > b.worth || b.join == nil {
			b = best{worth: worth, join: map[[2]int]int{}}
		}
		b.many, b.reward = b.many+1, max(b.reward, reward)
		for _, p := range joined {
			b.join[p]++
		}
	}
	try(0, 0, 0, 0)
	return b
}

// handed returns a desk without what is always joined, how many found things these are, and their reward.
func handed(x find.Desk) (find.Desk, int, int) {
	left := find.Desk{Weights: x.Weights, Slips: x.Slips}
	many, reward := 0, 0
	b := bestJoins(x)
	always := func(lost, found int) bool { return b.join[[2]int{lost, found}] == b.many }
	for lost := range x.Lost {
		gone := false
		for found := range x.Found {
			gone = gone || always(lost, found)
		}
		if gone {
			reward += x.Rewards[lost]
			continue
		}
		left.Lost, left.Rewards = append(left.Lost, x.Lost[lost]), append(left.Rewards, x.Rewards[lost])
	}
	for found := range x.Found {
		gone := false
		for lost := range x.Lost {
			gone = gone || always(lost, found)
		}
		if gone {
			many++
			continue
		}
		left.Found = append(left.Found, x.Found[found])
	}
	return left, many, reward
}

// records returns the text of all records.
func (d done) records() string {
	var s strings.Builder
	if !d.hasTown() {
		return ""
	}
	for n, l := range d.of("stand") {
		fmt.Fprintf(&s, "stand %d %s %d\n", n, l[0], len(d.stands()[n]))
	}
	n, _ := d.news()
	for i, l := range d.of("notice", "back") {
		reading, _ := text.Fewest(textOf(l[1:]))
		fmt.Fprintf(&s, "notice %d %s %s %d %d\n", i, l[0], map[bool]string{false: "said", true: "back"}[n.Notices[i].Back], len(l)-1, len(reading))
	}
	x := d.desk()
	for n := range x.Lost {
		s.WriteString(strings.ReplaceAll(fmt.Sprintln("find", n, x.Rewards[n], bare(x.Lost[n])), "-1", "x"))
	}
	for n := range x.Found {
		s.WriteString(strings.ReplaceAll(fmt.Sprintln("find", n+100, bare(x.Found[n])), "-1", "x"))
	}
	b, cried := d.box()
	for n, r := range b.Rounds {
		fmt.Fprintln(&s, "fee", n, cried[n], r.Stands, r.Stands*(r.Words*b.Word+b.Stand))
	}
	for n, x := range d.roll().Notices {
		fmt.Fprintln(&s, "plea", n, x.Times, bare(x.Men))
	}
	return s.String()
}

// bare returns numbers, and those of lists, with a blank between each two.
func bare(numbers ...any) string {
	return strings.Join(strings.FieldsFunc(fmt.Sprint(numbers...), func(c rune) bool { return strings.ContainsRune("[ ]", c) }), " ")
}

// reply returns the reply to a line, or its error.
func (d done) reply(line string) (string, api.Errno) {
	verb, words := cut(line)
	pattern := patterns[verb]
	switch {
	case len(line) > 80:
		return "", api.ErrLong
	case strings.HasPrefix(line, " ") || strings.HasSuffix(line, " ") || strings.Contains(line, "  ") || line == "":
		return "", api.ErrForm
	case pattern == nil:
		return "", api.ErrVerb
	case !pattern.MatchString(line[len(verb):]):
		return "", api.ErrForm
	case !d.hasTown() && verb != "town":
		return "", api.ErrAbsent
	case len(d) == 60 && !slices.Contains(asking(), verb):
		return "", api.ErrCount
	}
	if verb == "town" {
		return d.replyTown(words)
	}
	numbers := []int{}
	if verb != "notice" && verb != "back" {
		numbers = ints(words)
	}
	for _, of := range []func(string, []int) (string, api.Errno, bool){d.replyNews, d.replyMoney, d.replyFinds} {
		if s, e, is := of(verb, numbers); is {
			return s, e
		}
	}
	return d.replyNotice(words)
}

func (d done) replyTown(rows []string) (string, api.Errno) {
	for _, row := range rows {
		switch {
		case d.hasTown():
			return "", api.ErrTwice
		case len(row) != len(rows[0]):
			return "", api.ErrFalse
		}
	}
	if e := hear.Check(townOf(rows)); e != api.OK {
		return "", e
	}
	houses := strings.Count(strings.Join(rows, ""), "h")
	if houses == 0 {
		return "", api.ErrNone
	}
	return fmt.Sprint(houses), api.OK
}

func (d done) replyNotice(words []string) (string, api.Errno) {
	after := ints(words[:1])[0]
	n, _ := d.news()
	many := len(n.Notices)
	switch {
	case many == 8:
		return "", api.ErrCount
	case after >= many:
		return "", api.ErrAbsent
	case after >= 0 && slices.ContainsFunc(n.Notices, func(x news.Notice) bool { return x.After == after }):
		return "", api.ErrTwice
	}
	t := textOf(words[1:])
	if e := text.Check(t); e != api.OK {
		return "", e
	}
	for breaths := 1; breaths <= len(words); breaths++ {
		if breaks(t, 0, breaths) {
			return fmt.Sprint(many, breaths), api.OK
		}
	}
	return "", api.ErrNone
}

// breaks reports whether the words from one on can be broken into so many breaths that are right.
func breaks(t text.Text, from, breaths int) bool {
	if breaths == 0 || from == len(t.Words) {
		return breaths == 0 && from == len(t.Words)
	}
	syllables := 0
	for to := from; to < len(t.Words); to++ {
		syllables += t.Words[to].Syllables
		otherwise := slices.ContainsFunc(t.Turns, func(x text.Turn) bool { return x.Word+1 == from })
		stops := t.Words[to].Stop || to+1 == len(t.Words)
		if syllables <= t.Breath && !otherwise && stops && breaks(t, to+1, breaths-1) {
			return true
		}
	}
	return false
}

func (d done) replyNews(verb string, l []int) (string, api.Errno, bool) {
	if !slices.Contains([]string{"air", "link", "stand", "cry", "left", "holds", "mend"}, verb) {
		return "", 0, false
	}
	n, cries := d.news()
	silent := len(n.Notices) == 0 || len(n.Stands) == 0
	is := func(numbers []int, many int) bool {
		return !slices.ContainsFunc(numbers, func(x int) bool { return x < 0 || x >= many })
	}
	switch verb {
	case "air":
		if l[0] > 4 || l[1] < 1 || l[1] > 40 {
			return "", api.ErrRange, true
		}
		return "ok", api.OK, true
	case "link":
		switch {
		case len(n.Links) == 15:
			return "", api.ErrCount, true
		case !is(l, n.Houses):
			return "", api.ErrAbsent, true
		case l[0] == l[1]:
			return "", api.ErrFalse, true
		case slices.Contains(n.Links, [2]int{l[0], l[1]}) || slices.Contains(n.Links, [2]int{l[1], l[0]}):
			return "", api.ErrTwice, true
		}
		return "ok", api.OK, true
	case "stand":
		if len(n.Stands) == 6 {
			return "", api.ErrCount, true
		}
		if _, e := hear.Houses(d.town(), d.air(), l[0]); e != api.OK {
			return "", e, true
		}
		return strings.TrimSpace(fmt.Sprint(len(n.Stands)) + " " + bare(d.heard(l[0]))), api.OK, true
	case "cry":
		switch {
		case len(cries) == 16:
			return "", api.ErrCount, true
		case !is(l[:1], len(n.Notices)) || !is(l[1:], len(n.Stands)):
			return "", api.ErrAbsent, true
		}
		return "ok", api.OK, true
	case "left", "holds", "mend":
		if silent {
			return "", api.ErrNone, true
		}
		s, e := asked(verb, l, n, cries)
		return s, e, true
	}
	return "", 0, false
}

// asked returns what layer 4 tells.
func asked(verb string, l []int, n news.News, cries []news.Cry) (string, api.Errno) {
	switch verb {
	case "left":
		gaps, e := news.Left(n, cries, l[0])
		var s []string
		for _, g := range gaps {
			s = append(s, fmt.Sprint(g.House, g.Notice))
		}
		return strings.Join(s, " "), e
	case "holds":
		notices, e := news.Holds(n, cries, l[0], l[1])
		return bare(notices), e
	}
	further, e := news.Fewest(n, cries, l[0], l[1:])
	if e != api.OK {
		return "", e
	}
	return fmt.Sprint(len(further)), e
}

func (d done) replyMoney(verb string, l []int) (string, api.Errno, bool) {
	b, cried := d.box()
	switch verb {
	case "criers":
		if len(cried) > 0 {
			return "", api.ErrClash, true
		}
		return "ok", fee.Check(fee.Box{Criers: l[0], Word: l[1], Stand: l[2], Fine: l[3]}), true
	case "round":
		if b.Criers == 0 || l[0] >= len(d.texts()) {
			return "", api.ErrAbsent, true
		}
		r := fee.Round{Words: len(d.texts()[l[0]].Words), Stands: l[1], May: l[2:]}
		b.Rounds = append(b.Rounds, r)
		return fmt.Sprint(r.Stands * (r.Words*b.Word + b.Stand)), fee.Check(b), true
	case "pay":
		switch {
		case len(cried) == 0:
			return "", api.ErrNone, true
		case len(l) != b.Criers:
			return "", api.ErrCount, true
		case slices.Max(l) > 60:
			return "", api.ErrRange, true
		}
		gets, less := payment(b, l)
		return bare(gets, less), api.OK, true
	case "paid":
		return bare(d.paid()), api.OK, true
	case "duty", "load":
		s, e := d.replyRoll(verb, l)
		return s, e, true
	case "seal":
		s, e := sums(d.records())
		return s, e, true
	}
	return "", 0, false
}

func (d done) replyRoll(verb string, l []int) (string, api.Errno) {
	r := d.roll()
	switch {
	case r.Men == 0:
		return "", api.ErrAbsent
	case verb == "duty":
		r.Notices = append(r.Notices, slot.Notice{Times: l[0], Men: l[1:]})
		return fmt.Sprint(len(r.Notices) - 1), slot.Check(r)
	case len(r.Notices) == 0:
		return "", api.ErrNone
	}
	tight, _ := slot.Tight(r)
	need, _ := slot.Need(r, tight)
	// The tight men prove the least load, and the best plan has as many slots as that load, or the greatest Times.
	load := (need + len(tight) - 1) / len(tight)
	slots := load
	for _, n := range r.Notices {
		slots = max(slots, n.Times)
	}
	return bare(load, slots, tight), api.OK
}

// sums returns both sums of a text.
func sums(s string) (string, api.Errno) {
	first, second := 0, 0
	for n, b := range []byte(s) {
		first, second = (first+int(b))%65537, (second+(n+1)*int(b))%65537
	}
	if s == "" {
		return "", api.ErrForm
	}
	return fmt.Sprint(first, second), api.OK
}

func (d done) replyFinds(verb string, l []int) (string, api.Errno, bool) {
	x := d.desk()
	things, none := len(x.Lost)+len(x.Found), len(x.Weights) == 0
	switch verb {
	case "traits":
		if things > 0 {
			return "", api.ErrClash, true
		}
		return "ok", find.Check(find.Desk{Slips: l[0], Weights: l[1:]}), true
	case "lost", "found", "hand", "joins":
		if none {
			return "", api.ErrAbsent, true
		}
	}
	switch verb {
	case "lost":
		x.Rewards, x.Lost = append(x.Rewards, l[0]), append(x.Lost, l[1:])
		return fmt.Sprint(len(x.Lost) - 1), find.Check(x), true
	case "found":
		x.Found = append(x.Found, l)
		return fmt.Sprint(len(x.Found) - 1), find.Check(x), true
	case "hand":
		if _, many, reward := handed(x); many > 0 {
			return fmt.Sprint(many, reward), api.OK, true
		}
		return "", api.ErrNone, true
	case "joins":
		b := bestJoins(x)
		return bare(b.worth, b.many, b.reward), api.OK, true
	}
	return "", 0, false
}

// after returns what is done when a line was, if it has no error.
func (d done) after(line string) (done, string, api.Errno) {
	s, e := d.reply(line)
	if e != api.OK {
		return d, "", e
	}
	if verb, _ := cut(line); slices.Contains(asking(), verb) {
		return d, s, e
	}
	return append(slices.Clip(d), line), s, e
}

// print returns all that is there, told as one text.
func print(c *clerk.Clerk) string {
	town, air, e1 := c.Town()
	n, cries, e2 := c.News()
	desk, e3 := c.Desk()
	box, e4 := c.Box()
	roll, e5 := c.Roll()
	var texts []any
	for i := -1; i < 10; i++ {
		t, e := c.Text(i)
		texts = append(texts, t, e)
	}
	return fmt.Sprint(town, air, n, cries, desk, box, roll, texts, c.Paid(), c.File(), c.Journal(), e1, e2, e3, e4, e5)
}

// want returns the same of what lines say.
func (d done) want() string {
	var town hear.Town
	var air hear.Air
	var n news.News
	var cries []news.Cry
	e1, e3, e4 := api.ErrAbsent, api.ErrAbsent, api.ErrAbsent
	if d.hasTown() {
		town, air, e1 = d.town(), d.air(), api.OK
		n, cries = d.news()
	}
	desk, roll := d.desk(), d.roll()
	box, _ := d.box()
	if len(desk.Weights) > 0 {
		e3 = api.OK
	}
	if box.Criers > 0 {
		e4 = api.OK
	}
	var texts []any
	for i := -1; i < 10; i++ {
		if l := d.texts(); i >= 0 && i < len(l) {
			texts = append(texts, l[i], api.OK)
		} else {
			texts = append(texts, text.Text{}, api.ErrAbsent)
		}
	}
	f, _, _, e := file.Parse(d.records())
	if e != api.OK {
		panic(e)
	}
	return fmt.Sprint(town, air, n, cries, desk, box, roll, texts, d.paid(), f, []string(d), e1, e1, e3, e4, e4)
}

// same checks that a clerk has all that lines say.
func same(t *testing.T, c *clerk.Clerk, d done) {
	t.Helper()
	if got, want := print(c), d.want(); got != want {
		t.Errorf("after %q\n%s\n%s", []string(d), got, want)
	}
}

// with returns a clerk in which lines were done, all of which must be right.
func with(t *testing.T, lines ...string) *clerk.Clerk {
	t.Helper()
	c := clerk.New()
	for _, line := range lines {
		if _, e := c.Do(line); e != api.OK {
			t.Fatal(line, e)
		}
	}
	return c
}

// check does a line, and checks the reply or the error.
func check(t *testing.T, c *clerk.Clerk, line, reply string, want api.Errno) {
	t.Helper()
	if s, e := c.Do(line); s != reply || e != want {
		t.Errorf("%q: %q %d, not %q %d", line, s, e, reply, want)
	}
}

// some runs a test with many random sources, always the same.
func some(n int, do func(r *rand.Rand)) {
	for seed := range n {
		do(rand.New(rand.NewSource(int64(seed))))
	}
}
