package rescue

import (
	"strconv"
	"strings"

	"bathyal/api"
)

// The words with which the first line and the last one begin, and what is between two words.
const (
	bookWord = "book"
	endWord  = "end"
	blank    = " "
)

// The most words of a line of an entry, the most digits of a number, and the modulus of the check.
const (
	words   = 4
	digits  = 2
	modulus = 131
)

// Print returns the text of a book.
func Print(book []api.RescueEntry) (string, api.Errno) {
	if !isBook(book) {
		return "", api.ErrArg
	}
	return textOf(book), api.OK
}

// textOf returns the text of a book of entries of kinds that exist, be it as defined or not.
func textOf(book []api.RescueEntry) string {
	lines := []string{line(bookWord, len(book))}
	for _, e := range book {
		lines = append(lines, lineOf(e))
	}
	lines = append(lines, endWord+blank+check(lines))
	return strings.Join(lines, "\n") + "\n"
}

// line returns the line of a word and some numbers.
func line(word string, numbers ...int) string {
	for _, n := range numbers {
		word += blank + strconv.Itoa(n)
	}
	return word
}

// lineOf returns the line of an entry.
func lineOf(e api.RescueEntry) string {
	x := eventOf(e)
	switch x := x.(type) {
	case dive:
		return line(x.word(), x.depth, e.Day.Low, e.Day.High)
	}
	return line(x.word(), e.Day.Low, e.Day.High)
}

// check returns the check of the lines before it.
func check(lines []string) string {
	total := 0
	for i, line := range lines {
		for k := range len(line) {
			total += (i + 1) * (k + 1) * int(line[k])
		}
	}
	number := strconv.Itoa(1000 + total%modulus)
	return number[1:]
}

// Read returns the book of a text.
func Read(text string) ([]api.RescueEntry, api.Errno) {
	if len(text) > api.RescueText {
		return nil, api.ErrLong
	}
	var book []api.RescueEntry
	if e := attempt(func() { book = told(text) }); e != api.OK {
		return nil, e
	}
	if !isBook(book) {
		return nil, api.ErrArg
	}
	return book, api.OK
}

// told returns the book that a text tells, be it as defined or not, and gives up if the text is not just that of it.
func told(text string) []api.RescueEntry {
	const before, behind = 1, 2 // the line of the number of entries, and that of the check with what comes after its line feed
	lines := strings.Split(text, "\n")
	if len(lines) < before+behind {
		panic(noBook{})
	}
	var book []api.RescueEntry
	for _, line := range lines[before : len(lines)-behind] {
		book = append(book, entryOf(line))
	}
	if textOf(book) != text {
		panic(noBook{})
	}
	return book
}

// entryOf returns the entry of a line, and gives up if its kind or a number is missing. More words than those of an entry are noticed when the line is written again.
func entryOf(line string) api.RescueEntry {
	var said [words]string
	copy(said[:], strings.Split(line, blank))
	e := api.RescueEntry{Kind: kindOf(said[0])}
	ends := said[1:]
	if e.Kind == api.RescueDive {
		e.Depth = number(said[1])
		ends = said[2:]
	}
	e.Day = api.Span{Low: number(ends[0]), High: number(ends[1])}
	return e
}

// kindOf returns the kind of the entries of which the lines begin with a word, and gives up if there is none.
func kindOf(word string) api.RescueKind {
	for kind := api.RescueLesson; kind <= api.RescueTest; kind++ {
		if x := eventOf(api.RescueEntry{Kind: kind}); x.word() == word {
			return kind
		}
	}
	panic(noBook{})
}

// number returns the number that a word is, and gives up if it is none. Leading zeros are noticed when the line is written again.
func number(word string) int {
	if !within(len(word), 1, digits) {
		panic(noBook{})
	}
	n := 0
	for _, digit := range word {
		if digit < '0' || digit > '9' {
			panic(noBook{})
		}
		n = 10*n + int(digit-'0')
	}
	return n
}
