package clerk

import (
	"slices"
	"strconv"
	"strings"

	"oyez/api"
	"oyez/fee"
	"oyez/file"
	"oyez/find"
	"oyez/news"
	"oyez/text"
)

// firstFound is the number of the record of the first found thing.
const firstFound = 100

// records returns those of the desk, in the order of a file.
func (s *state) records() []file.Record {
	return slices.Concat(s.stands(), s.notices(), s.things(), s.fees(), s.pleas())
}

func (s *state) stands() []file.Record {
	var f []file.Record
	for n, plot := range s.plots {
		f = append(f, file.Record{Kind: file.Stand, Number: n, Words: words(plot, len(s.news.Stands[n]))})
	}
	return f
}

func (s *state) notices() []file.Record {
	var f []file.Record
	for n, notice := range s.news.Notices {
		said := "said"
		if notice.Back {
			said = "back"
		}
		// Each text that was taken has a right reading.
		reading, _ := text.Fewest(s.texts[n])
		after := wordOr(noNotice, news.None)(notice.After)
		l := append([]string{after, said}, words(len(s.texts[n].Words), len(reading))...)
		f = append(f, file.Record{Kind: file.Notice, Number: n, Words: l})
	}
	return f
}

func (s *state) things() []file.Record {
	var f []file.Record
	value := wordOr(noValue, find.Unknown)
	for n, values := range s.desk.Lost {
		l := append(words(s.desk.Rewards[n]), each(values, value)...)
		f = append(f, file.Record{Kind: file.Find, Number: n, Words: l})
	}
	for n, values := range s.desk.Found {
		f = append(f, file.Record{Kind: file.Find, Number: firstFound + n, Words: each(values, value)})
	}
	return f
}

func (s *state) fees() []file.Record {
	var f []file.Record
	for n, notice := range s.cried {
		// Each round that was made is one of the box.
		pence, _ := fee.Fee(s.box, n)
		f = append(f, file.Record{Kind: file.Fee, Number: n, Words: words(notice, s.box.Rounds[n].Stands, pence)})
	}
	return f
}

func (s *state) pleas() []file.Record {
	var f []file.Record
	for n, notice := range s.roll.Notices {
		f = append(f, file.Record{Kind: file.Plea, Number: n, Words: words(with([]int{notice.Times}, notice.Men...)...)})
	}
	return f
}

// words returns numbers as words.
func words(numbers ...int) []string { return each(numbers, strconv.Itoa) }

// wordOr returns what tells numbers, with a word for one of them.
func wordOr(word string, instead int) func(int) string {
	return func(n int) string {
		if n == instead {
			return word
		}
		return strconv.Itoa(n)
	}
}

// seal tells both sums of the text of the records.
func (s *state) seal(args) (string, api.Errno) {
	body, e := file.Print(s.records())
	if e != api.OK {
		return "", e
	}
	sealed, e := file.Seal(body)
	if e != api.OK {
		return "", e
	}
	return strings.TrimSuffix(strings.TrimPrefix(sealed, body+"seal "), "\n"), api.OK
}
