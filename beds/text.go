package beds

import (
	"strconv"
	"strings"

	"bathyal/api"
)

// The lines of a text, with a mark for each number.
const (
	mark       = "#"
	groundLine = "ground # #"
	bedLine    = "bed # # # # # # # # grow # # full # leave # within #"
)

// The longest number of a text, and the modulus of its check.
const (
	digits  = 4
	modulus = 109
)

// Print returns the text of a ground.
func Print(g api.BedsGround) (string, api.Errno) {
	if e := Check(g); e != api.OK {
		return "", e
	}
	lines := []string{written(groundLine, g.Boats, g.Years)}
	for _, b := range g.Beds {
		var numbers []int
		for _, s := range b.Start {
			numbers = append(numbers, s.Low, s.High)
		}
		numbers = append(numbers, b.Low, b.High, b.Full, b.Leave, b.Within)
		lines = append(lines, written(bedLine, numbers...))
	}
	lines = append(lines, endLine(lines))
	return strings.Join(lines, "\n") + "\n", api.OK
}

// written returns a line with a number for each mark.
func written(form string, numbers ...int) string {
	words := strings.Split(form, " ")
	next := 0
	for i, word := range words {
		if word == mark {
			words[i] = strconv.Itoa(numbers[next])
			next++
		}
	}
	return strings.Join(words, " ")
}

// endLine returns the last line of a text, with the check of the lines before it.
func endLine(lines []string) string {
	sum := 0
	for _, line := range lines {
		for i := range len(line) {
			sum += (i + 1) * int(line[i])
		}
	}
	check := strconv.Itoa(sum % modulus)
	return "end " + strings.Repeat("0", 3-len(check)) + check
}

// Read returns the ground of a text.
func Read(text string) (api.BedsGround, api.Errno) {
	if len(text) > api.BedsText {
		return api.BedsGround{}, api.ErrLong
	}
	g, ok := parsed(text)
	if !ok {
		return api.BedsGround{}, api.ErrText
	}
	if e := Check(g); e != api.OK {
		return api.BedsGround{}, e
	}
	return g, api.OK
}

// parsed returns what a text says, be it a ground as defined or not, or false if it does not have the form of one.
func parsed(text string) (api.BedsGround, bool) {
	body, whole := strings.CutSuffix(text, "\n")
	lines := strings.Split(body, "\n")
	last := len(lines) - 1
	if !whole || last < 1 || lines[last] != endLine(lines[:last]) {
		return api.BedsGround{}, false
	}
	head, ok := read(groundLine, lines[0])
	if !ok {
		return api.BedsGround{}, false
	}
	g := api.BedsGround{Boats: head[0], Years: head[1]}
	for _, line := range lines[1:last] {
		n, ok := read(bedLine, line)
		if !ok {
			return api.BedsGround{}, false
		}
		g.Beds = append(g.Beds, bedOf(n))
	}
	return g, true
}

// bedOf returns the bed of the numbers of a line.
func bedOf(n []int) api.BedsBed {
	start := make([]api.Span, api.BedsClasses)
	for class := range start {
		start[class] = api.Span{Low: n[2*class], High: n[2*class+1]}
	}
	rest := n[2*api.BedsClasses:]
	return api.BedsBed{Start: start, Low: rest[0], High: rest[1], Full: rest[2], Leave: rest[3], Within: rest[4]}
}

// read returns the numbers of a line, or false if it does not have the form.
func read(form, line string) ([]int, bool) {
	wanted, words := strings.Split(form, " "), strings.Split(line, " ")
	if len(words) != len(wanted) {
		return nil, false
	}
	var numbers []int
	for i, word := range words {
		if wanted[i] != mark {
			if word != wanted[i] {
				return nil, false
			}
			continue
		}
		n, ok := number(word)
		if !ok {
			return nil, false
		}
		numbers = append(numbers, n)
	}
	return numbers, true
}

// number returns the number of a word, or false if it is none.
func number(word string) (int, bool) {
	if !within(len(word), 1, digits) || len(word) > 1 && word[0] == '0' {
		return 0, false
	}
	n := 0
	for i := range len(word) {
		if word[i] < '0' || word[i] > '9' {
			return 0, false
		}
		n = 10*n + int(word[i]-'0')
	}
	return n, true
}
