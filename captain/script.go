package captain

import (
	"iter"
	"strings"

	"bathyal/api"
)

// The words of answers without numbers.
const (
	doneWord = "done"
	noWord   = "no"
	noneWord = "none"
)

// feed is what ends a line.
const feed = "\n"

// lines yields the lines of a text, and whether a line feed ends each of them.
func lines(text string) iter.Seq2[string, bool] {
	return func(yield func(line string, ended bool) bool) {
		rest := text
	script:
		for {
			line, after, ended := strings.Cut(rest, feed)
			switch {
			case rest == "", !yield(line, ended):
				break script
			}
			rest = after
		}
	}
}

// Replay returns the captain with whom all acts of a journal were done, and -1.
func Replay(s api.CaptainSuite, journal string) (*Captain, int, api.Errno) {
	c, e := Open(s)
	if e != api.OK {
		return nil, 0, e
	}
	if len(journal) > api.CaptainText {
		return nil, 0, api.ErrLong
	}
	number := 0
	for line, ended := range lines(journal) {
		a, e := Parse(line)
		if e != api.OK || !ended {
			return nil, number, api.ErrText
		}
		if e := c.Act(a); e != api.OK {
			return nil, number, e
		}
		number++
	}
	return c, -1, api.OK
}

// Console returns the lines with which a script is answered.
func Console(s api.CaptainSuite, script string) (string, api.Errno) {
	c, e := Open(s)
	switch {
	case e != api.OK:
		return "", e
	case len(script) > api.CaptainText:
		return "", api.ErrLong
	case script != "" && !strings.HasSuffix(script, feed):
		return "", api.ErrText
	}
	var answers strings.Builder
	for line := range lines(script) {
		answers.WriteString(c.answer(line) + feed)
	}
	return answers.String(), api.OK
}

// answer returns the line with which a line is answered.
func (c *Captain) answer(line string) string {
	answer := ""
	if e := attempt(func() { answer = c.tell(line) }); e != api.OK {
		return noWord + blank + said(int(e))
	}
	return answer
}

// tell does the act of a line, or answers its question, and gives up if it has an error, or is none.
func (c *Captain) tell(line string) string {
	word, numbers := read(line)
	if a, is := actOf(word, numbers); is {
		c.do(a)
		return doneWord
	}
	q, is := questionOf(word, numbers)
	if !is {
		panic(noLine{api.ErrText})
	}
	answer := c.ask(q)
	if len(answer) == 0 {
		return noneWord
	}
	return said(answer...)
}
