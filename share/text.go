package share

import (
	"strconv"
	"strings"

	"bathyal/api"
)

// The words with which lines of a text begin.
const (
	seasonWord  = "season"
	personWord  = "person"
	landingWord = "landing"
	endWord     = "end"
)

// The most digits of a number, the greatest number of one digit, and the modulus of the check.
const (
	digits  = 6
	largest = 9
	modulus = 113
)

// wordOf returns the word of a fate.
func wordOf(name api.ShareFate) string {
	switch fateOf(name).(type) {
	case staying:
		return "stays"
	case deserting:
		return "deserts"
	case dying:
		return "dies"
	}
	return ""
}

// Print returns the text of a season.
func Print(s api.ShareSeason) (string, api.Errno) {
	if e := Check(s); e != api.OK {
		return "", e
	}
	return textOf(s), api.OK
}

// textOf returns the text of a season, be it as defined or not.
func textOf(s api.ShareSeason) string {
	lines := []string{line(seasonWord, strconv.Itoa(len(s.Persons)), strconv.Itoa(len(s.Landings)))}
	for _, p := range s.Persons {
		lines = append(lines, line(personWord, strconv.Itoa(p.Parts), strconv.Itoa(p.Debt), wordOf(p.Fate)))
	}
	for _, g := range s.Landings {
		words := []string{landingWord, strconv.Itoa(g.Gross), strconv.Itoa(g.Costs)}
		for _, person := range members(g.Crew) {
			words = append(words, strconv.Itoa(person))
		}
		lines = append(lines, line(words...))
	}
	lines = append(lines, line(endWord, check(lines)))
	return strings.Join(lines, "\n") + "\n"
}

// line returns the line of some words.
func line(words ...string) string { return strings.Join(words, " ") }

// check returns the check of some lines.
func check(lines []string) string {
	total := 0
	for _, line := range lines {
		for i := range len(line) {
			total += int(line[i]) * (i + 1)
		}
	}
	number := strconv.Itoa(1000 + total%modulus)
	return number[1:]
}

// Read returns the season of a text.
func Read(text string) (api.ShareSeason, api.Errno) {
	if len(text) > api.ShareText {
		return api.ShareSeason{}, api.ErrLong
	}
	var s api.ShareSeason
	if e := attempt(func() { s = told(text) }); e != api.OK {
		return api.ShareSeason{}, e
	}
	if e := Check(s); e != api.OK {
		return api.ShareSeason{}, e
	}
	return s, api.OK
}

// told returns the season that a text tells, be it as defined or not, and gives up if the text is not just the one of it.
func told(text string) api.ShareSeason {
	var s api.ShareSeason
	for _, line := range strings.Split(text, "\n") {
		words := strings.Split(line, " ")
		switch {
		case words[0] == personWord && len(words) == 4:
			s.Persons = append(s.Persons, personOf(words[1:]))
		case words[0] == landingWord && len(words) >= 3:
			s.Landings = append(s.Landings, landingOf(words[1:]))
		}
	}
	if textOf(s) != text {
		panic(noSeason{})
	}
	return s
}

// personOf returns the person of three words, and gives up if there is none.
func personOf(words []string) api.SharePerson {
	p := api.SharePerson{Parts: numberOf(words[0]), Debt: numberOf(words[1])}
	for _, name := range []api.ShareFate{api.ShareStays, api.ShareDeserts, api.ShareDies} {
		if words[2] == wordOf(name) {
			p.Fate = name
		}
	}
	if fateOf(p.Fate) == nil {
		panic(noSeason{})
	}
	return p
}

// landingOf returns the landing of some words, and gives up if there is none.
func landingOf(words []string) api.ShareLanding {
	g := api.ShareLanding{Gross: numberOf(words[0]), Costs: numberOf(words[1])}
	for _, word := range words[2:] {
		person := numberOf(word)
		if person > largest {
			panic(noSeason{})
		}
		g.Crew |= 1 << person
	}
	return g
}

// numberOf returns the number that a word is, and gives up if it is none. Leading zeros are noticed when the text is written again.
func numberOf(word string) int {
	if !within(len(word), 1, digits) {
		panic(noSeason{})
	}
	n := 0
	for _, digit := range word {
		if !within(int(digit), '0', '9') {
			panic(noSeason{})
		}
		n = 10*n + int(digit-'0')
	}
	return n
}
