package gas

import (
	"strconv"
	"strings"

	"bathyal/api"
)

// The words with which the lines of a slip begin.
const (
	diveWord  = "dive"
	stageWord = "stage"
	endWord   = "end"
)

// The longest number of a slip, how many numbers a stage has, and the modulus of the check.
const (
	digits   = 3
	perStage = 4
	modulus  = 97
)

// Print returns the slip of a dive.
func Print(dive []api.GasStage) (string, api.Errno) {
	if !diveable(dive, 0) {
		return "", api.ErrArg
	}
	return slip(dive), api.OK
}

// slip returns the slip of some stages, be they a dive as defined or not.
func slip(stages []api.GasStage) string {
	rows := [][]int{{len(stages)}}
	for _, s := range stages {
		rows = append(rows, []int{s.Depth.Low, s.Depth.High, s.Minutes.Low, s.Minutes.High})
	}
	var text strings.Builder
	word := diveWord
	for _, row := range rows {
		text.WriteString(written(word, row))
		word = stageWord
	}
	return text.String() + endWord + " " + check(rows) + "\n"
}

// written returns a line of a word and some numbers.
func written(word string, numbers []int) string {
	words := []string{word}
	for _, n := range numbers {
		words = append(words, strconv.Itoa(n))
	}
	return strings.Join(words, " ") + "\n"
}

// check returns the check of the numbers of all lines before it.
func check(rows [][]int) string {
	sum := 0
	for i, row := range rows {
		for k, n := range row {
			sum += (i + 1) * (k + 1) * n
		}
	}
	sum %= modulus
	return strconv.Itoa(sum/10) + strconv.Itoa(sum%10)
}

// Read returns the dive of a slip.
func Read(text string) ([]api.GasStage, api.Errno) {
	if len(text) > api.GasText {
		return nil, api.ErrLong
	}
	var dive []api.GasStage
	if e := attempt(func() { dive = told(text) }); e != api.OK {
		return nil, e
	}
	if !diveable(dive, 0) {
		return nil, api.ErrArg
	}
	return dive, api.OK
}

// told returns the stages that a text tells, be they a dive as defined or not, and gives up if it is not just what would be written of them.
func told(text string) []api.GasStage {
	const before, behind = 1, 2 // the line of the dive, and that of the check with what comes after its line feed
	lines := strings.Split(text, "\n")
	if len(lines) < before+behind {
		panic(noSlip{})
	}
	var stages []api.GasStage
	for _, line := range lines[before : len(lines)-behind] {
		stages = append(stages, stage(line))
	}
	if slip(stages) != text {
		panic(noSlip{})
	}
	return stages
}

// stage returns the stage of a line, and gives up if the line does not have its numbers.
func stage(line string) api.GasStage {
	words := strings.Split(line, " ")
	if len(words) != 1+perStage {
		panic(noSlip{})
	}
	var n [perStage]int
	for i, word := range words[1:] {
		n[i] = number(word)
	}
	return api.GasStage{Depth: api.Span{Low: n[0], High: n[1]}, Minutes: api.Span{Low: n[2], High: n[3]}}
}

// number returns the number of a word, and gives up if the word has other things than digits, or too many of them.
func number(word string) int {
	if len(word) > digits {
		panic(noSlip{})
	}
	n := 0
	for _, digit := range word {
		if digit < '0' || digit > '9' {
			panic(noSlip{})
		}
		n = 10*n + int(digit-'0')
	}
	return n
}
