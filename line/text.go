package line

import (
	"strconv"
	"strings"

	"bathyal/api"
)

// The words with which lines of a text begin, what is between two groups, and what is written for the empty word.
const (
	logWord = "log "
	endWord = "end "
	hyphen  = "-"
	empty   = "0"
)

// The longest number of a text, the longest log that such a number counts, and the modulus of the check.
const (
	digits  = 2
	longest = 99
	modulus = 127
)

// Print returns the text of a log.
func Print(log [][]int) (string, api.Errno) {
	if _, ok := logOf(log); !ok {
		return "", api.ErrArg
	}
	return textOf(log), api.OK
}

// textOf returns the text of some words, be they a log as defined or not.
func textOf(words [][]int) string {
	lines := []string{logWord + strconv.Itoa(len(words))}
	for _, groups := range words {
		lines = append(lines, written(groups))
	}
	lines = append(lines, endWord+check(lines))
	return strings.Join(lines, "\n") + "\n"
}

// written returns the line of a word.
func written(groups []int) string {
	if len(groups) == 0 {
		return empty
	}
	var numbers []string
	for _, pulls := range groups {
		numbers = append(numbers, strconv.Itoa(pulls))
	}
	return strings.Join(numbers, hyphen)
}

// check returns the check of some lines.
func check(lines []string) string {
	sum := 0
	for i, line := range lines {
		for k := range len(line) {
			sum += (i + 1) * (k + 1) * int(line[k])
		}
	}
	three := strconv.Itoa(1000 + sum%modulus)
	return three[1:]
}

// Read returns the log of a text.
func Read(text string) ([][]int, api.Errno) {
	if len(text) > api.LineText {
		return nil, api.ErrLong
	}
	var log [][]int
	if e := attempt(func() { log = told(text) }); e != api.OK {
		return nil, e
	}
	if _, ok := logOf(log); !ok {
		return nil, api.ErrArg
	}
	return log, api.OK
}

// told returns the words that a text tells, be they a log as defined or not, and gives up if it is not just what would be written of them.
func told(text string) [][]int {
	const before, behind = 1, 2 // the line of the log, and that of the check with what comes after its line feed
	lines := strings.Split(text, "\n")
	if !within(len(lines)-before-behind, 0, longest) {
		panic(noLog{})
	}
	var words [][]int
	for _, line := range lines[before : len(lines)-behind] {
		words = append(words, groupsOf(line))
	}
	if textOf(words) != text {
		panic(noLog{})
	}
	return words
}

// groupsOf returns the groups of a line, and gives up if one is no number.
func groupsOf(line string) []int {
	if line == empty {
		return nil
	}
	var groups []int
	for _, number := range strings.Split(line, hyphen) {
		groups = append(groups, pullsOf(number))
	}
	return groups
}

// pullsOf returns the pulls of a number, and gives up if it has other things than digits, or too many of them.
func pullsOf(number string) int {
	if len(number) > digits {
		panic(noLog{})
	}
	n := 0
	for _, digit := range number {
		if digit < '0' || digit > '9' {
			panic(noLog{})
		}
		n = 10*n + int(digit-'0')
	}
	return n
}
