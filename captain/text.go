package captain

import (
	"slices"
	"strconv"
	"strings"

	"bathyal/api"
)

// blank is what is between two words.
const blank = " "

// said returns some numbers as a line says them.
func said(numbers ...int) string {
	var words []string
	for _, n := range numbers {
		words = append(words, strconv.Itoa(n))
	}
	return strings.Join(words, blank)
}

// lineOf returns the line of an act that is formed.
func lineOf(a api.CaptainAct) string {
	is := acts()[a.Kind-api.CaptainCut]
	return is.word() + blank + said(a.Numbers...)
}

// Write returns the line of an act.
func Write(a api.CaptainAct) (string, api.Errno) {
	if !isFormed(a) {
		return "", api.ErrArg
	}
	line := lineOf(a)
	if len(line) > api.CaptainLine {
		return "", api.ErrLong
	}
	return line, api.OK
}

// read returns the word with which a line begins, and the numbers that it has after it; it gives up if the line is too long, or has something else.
func read(line string) (string, []int) {
	if len(line) > api.CaptainLine {
		panic(noLine{api.ErrLong})
	}
	word, rest, more := strings.Cut(line, blank)
	next := func() int {
		var digits string
		digits, rest, more = strings.Cut(rest, blank)
		return number(digits)
	}
	var numbers []int
	for more {
		n := next()
		numbers = append(numbers, n)
	}
	return word, numbers
}

// number returns the number that a word is, and gives up if it is none, or too great. A word that has no digits, leading zeros, or anything else is noticed when the number is written again.
func number(word string) int {
	n := 0
	for _, digit := range word {
		n = 10*n + int(digit-'0')
	}
	if !isNumber(n) || strconv.Itoa(n) != word {
		panic(noLine{api.ErrText})
	}
	return n
}

// place returns the place of the row that has a word and so many numbers, or false if there is none.
func place(rows []row, word string, numbers int) (int, bool) {
	at := slices.IndexFunc(rows, func(r row) bool { return r.word() == word && says(r, numbers) })
	return at, at >= 0
}

// actOf returns the act of a word and some numbers, or false if there is none.
func actOf(word string, numbers []int) (api.CaptainAct, bool) {
	rows := acts()
	at, is := place(rows[:], word, len(numbers))
	return api.CaptainAct{Kind: api.CaptainCut + api.CaptainKind(at), Numbers: numbers}, is
}

// questionOf returns the question of a word and some numbers, or false if there is none.
func questionOf(word string, numbers []int) (api.CaptainQuestion, bool) {
	rows := questions()
	at, is := place(rows[:], word, len(numbers))
	return api.CaptainQuestion{Kind: api.CaptainMost + api.CaptainAsk(at), Numbers: numbers}, is
}

// Parse returns the act of a line.
func Parse(line string) (api.CaptainAct, api.Errno) {
	var parsed api.CaptainAct
	e := attempt(func() {
		a, is := actOf(read(line))
		if !is {
			panic(noLine{api.ErrText})
		}
		parsed = a
	})
	return parsed, e
}
