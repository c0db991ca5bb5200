package loft

import (
	"strconv"
	"strings"

	"bathyal/api"
)

// The words with which the lines of a book begin.
const (
	loftWord   = "loft"
	stringWord = "string"
	endWord    = "end"
)

// The most digits of a number, how many numbers a string has, and the modulus of the check.
const (
	digits    = 5
	perString = 4
	modulus   = 101
)

// Print returns the book of strings and a packing.
func Print(l []api.LoftString, packing []int) (string, api.Errno) {
	if !areBaled(l, packing) {
		return "", api.ErrArg
	}
	return book(l, packing), api.OK
}

// book returns the book of strings with as many bales, be they as defined or not.
func book(l []api.LoftString, packing []int) string {
	rows := [][]int{{len(l)}}
	for i, s := range l {
		rows = append(rows, []int{s.Grade, s.Weight.Low, s.Weight.High, packing[i]})
	}
	var text strings.Builder
	word := loftWord
	for _, row := range rows {
		text.WriteString(line(word, row))
		word = stringWord
	}
	text.WriteString(endWord + " " + check(rows) + "\n")
	return text.String()
}

// line returns the line of a word and some numbers.
func line(word string, numbers []int) string {
	for _, n := range numbers {
		word += " " + strconv.Itoa(n)
	}
	return word + "\n"
}

// check returns the check of the numbers of all lines before it.
func check(rows [][]int) string {
	total := 0
	for i, row := range rows {
		for k, n := range row {
			total += (i + 1) * (k + 1) * n
		}
	}
	number := strconv.Itoa(1000 + total%modulus)
	return number[1:]
}

// Read returns the strings and the packing of a book.
func Read(text string) ([]api.LoftString, []int, api.Errno) {
	if len(text) > api.LoftText {
		return nil, nil, api.ErrLong
	}
	var l []api.LoftString
	var packing []int
	if e := attempt(func() { l, packing = told(text) }); e != api.OK {
		return nil, nil, e
	}
	if !areBaled(l, packing) {
		return nil, nil, api.ErrArg
	}
	return l, packing, api.OK
}

// told returns the strings and the packing that a text tells, be they as defined or not, and gives up if the text is not just the book of them.
func told(text string) ([]api.LoftString, []int) {
	var l []api.LoftString
	var packing []int
	for _, line := range strings.Split(text, "\n") {
		words := strings.Split(line, " ")
		if words[0] != stringWord || len(words) != 1+perString {
			continue
		}
		var n [perString]int
		for i, word := range words[1:] {
			n[i] = number(word)
		}
		l = append(l, api.LoftString{Grade: n[0], Weight: api.Span{Low: n[1], High: n[2]}})
		packing = append(packing, n[3])
	}
	if book(l, packing) != text {
		panic(noBook{})
	}
	return l, packing
}

// number returns the number that a word is, and gives up if it is none. Leading zeros are noticed when the book is written again.
func number(word string) int {
	if !within(len(word), 1, digits) {
		panic(noBook{})
	}
	n := 0
	for _, digit := range word {
		if digit < '0' || digit > '9' {
			panic(noBook{})
		}
		n = 10*n + int(digit-'0')
	}
	return n
}
