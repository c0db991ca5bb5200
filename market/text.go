package market

import (
	"slices"
	"strconv"
	"strings"

	"bathyal/api"
)

// The words with which the lines of a note begin, and what is between two words.
const (
	saleWord = "sale"
	martWord = "mart"
	endWord  = "end"
	blank    = " "
)

// The most digits of a number, and the modulus of the check.
const (
	digits  = 2
	modulus = 97
)

// Print returns the note of a sale.
func Print(s api.MarketStore, sale [][]int) (string, api.Errno) {
	if _, e := soldOf(s, sale); e != api.OK {
		return "", e
	}
	return note(sale), api.OK
}

// note returns the note of a sale of one mart at least, be it as defined or not.
func note(sale [][]int) string {
	rows := slices.Concat([][]int{{len(sale), len(sale[0])}}, sale)
	var text strings.Builder
	word := saleWord
	for _, row := range rows {
		text.WriteString(line(word, row))
		word = martWord
	}
	text.WriteString(endWord + blank + check(rows) + "\n")
	return text.String()
}

// line returns the line of a word and some numbers.
func line(word string, numbers []int) string {
	for _, n := range numbers {
		word += blank + strconv.Itoa(n)
	}
	return word + "\n"
}

// check returns the check of the numbers of all lines before it.
func check(rows [][]int) string {
	sum := 0
	for i, row := range rows {
		for k, n := range row {
			sum += (i + 1) * (k + 1) * n
		}
	}
	number := strconv.Itoa(100 + sum%modulus)
	return number[1:]
}

// Read returns the sale of a note.
func Read(s api.MarketStore, text string) ([][]int, api.Errno) {
	if len(text) > api.MarketText {
		return nil, api.ErrLong
	}
	var sale [][]int
	if e := attempt(func() { sale = told(text) }); e != api.OK {
		return nil, e
	}
	if _, e := soldOf(s, sale); e != api.OK {
		return nil, e
	}
	return sale, api.OK
}

// told returns the sale that a text tells, be it as defined or not, and gives up if the text is not just the note of it.
func told(text string) [][]int {
	const before, behind = 1, 2 // the line of the numbers of marts and grades, and that of the check with what comes after its line feed
	lines := strings.Split(text, "\n")
	if len(lines) <= before+behind {
		panic(noNote{})
	}
	var sale [][]int
	for _, line := range lines[before : len(lines)-behind] {
		sale = append(sale, numbers(line))
	}
	grades := len(sale[0])
	if grades == 0 || !all(sale, func(row []int) bool { return len(row) == grades }) || note(sale) != text {
		panic(noNote{})
	}
	return sale
}

// numbers returns the numbers of a line, and gives up if a word behind the first one is none.
func numbers(line string) []int {
	var row []int
	for _, word := range strings.Split(line, blank)[1:] {
		row = append(row, number(word))
	}
	return row
}

// number returns the number that a word is, and gives up if it is none. Leading zeros are noticed when the note is written again.
func number(word string) int {
	if !within(len(word), 1, digits) {
		panic(noNote{})
	}
	n := 0
	for _, digit := range word {
		if digit < '0' || digit > '9' {
			panic(noNote{})
		}
		n = 10*n + int(digit-'0')
	}
	return n
}
