package air

import (
	"strconv"
	"strings"

	"bathyal/api"
)

// The words with which lines of a sheet begin, and what is between two words.
const (
	sheetWord = "sheet"
	endWord   = "end"
	blank     = " "
)

// The greatest number of a sheet, and the modulus of the check.
const (
	largest = 9
	modulus = 97
)

// Print returns the sheet of a roster.
func Print(crews int, roster [][]int) (string, api.Errno) {
	if !within(crews, 1, api.AirCrews) || !isRoster(crews, roster) {
		return "", api.ErrArg
	}
	return sheetOf(roster), api.OK
}

// sheetOf returns the sheet of a roster that has a watch at least, be it as defined or not.
func sheetOf(roster [][]int) string {
	lines := []string{sheetWord + blank + written([]int{len(roster[0]), len(roster)})}
	for _, watch := range roster {
		lines = append(lines, written(watch))
	}
	lines = append(lines, endWord+blank+check(roster))
	return strings.Join(lines, "\n") + "\n"
}

// written returns the line of some numbers.
func written(numbers []int) string {
	var words []string
	for _, n := range numbers {
		words = append(words, strconv.Itoa(n))
	}
	return strings.Join(words, blank)
}

// check returns the check of a roster.
func check(roster [][]int) string {
	sum := 0
	for i, watch := range roster {
		for k, crew := range watch {
			sum += (crew + 1) * (i + 1) * (k + 1)
		}
	}
	number := strconv.Itoa(100 + sum%modulus)
	return number[1:]
}

// Read returns the roster of a sheet.
func Read(crews int, text string) ([][]int, api.Errno) {
	if len(text) > api.AirText {
		return nil, api.ErrLong
	}
	var roster [][]int
	if e := attempt(func() { roster = told(text) }); e != api.OK {
		return nil, e
	}
	if !within(crews, 1, api.AirCrews) || !isRoster(crews, roster) {
		return nil, api.ErrArg
	}
	return roster, api.OK
}

// told returns the roster that a text tells, be it as defined or not, and gives up if the text is not just the sheet of it.
func told(text string) [][]int {
	const before, behind = 1, 2 // the line of the sheet, and that of the check with what comes after its line feed
	lines := strings.Split(text, "\n")
	if !within(len(lines)-before-behind, 1, largest) {
		panic(noSheet{})
	}
	var roster [][]int
	for _, line := range lines[before : len(lines)-behind] {
		watch := crewsOf(line)
		if len(roster) > 0 && len(watch) != len(roster[0]) {
			panic(noSheet{})
		}
		roster = append(roster, watch)
	}
	if sheetOf(roster) != text {
		panic(noSheet{})
	}
	return roster
}

// crewsOf returns the crews of a line, each of which is one digit, and gives up if there are other things, or not as many as one digit counts.
func crewsOf(line string) []int {
	var crews []int
	for _, letter := range line {
		if '0' <= letter && letter <= '9' {
			crews = append(crews, int(letter-'0'))
		} else if string(letter) != blank {
			panic(noSheet{})
		}
	}
	if !within(len(crews), 1, largest) {
		panic(noSheet{})
	}
	return crews
}
