package voyage

import (
	"strconv"
	"strings"

	"bathyal/api"
)

// The words of a text that are no numbers, and what is between two words.
const (
	ordersWord = "orders"
	onWord     = "on"
	atWord     = "at"
	windWord   = "wind"
	waterWord  = "water"
	stayWord   = "stay"
	sailWord   = "sail"
	endWord    = "end"
	blank      = " "
)

// The places of the words of the line of an order: a line with stay has all but the last one.
const (
	placeOn = iota
	placeDay
	placeAt
	placePort
	placeWind
	placeOfWind
	placeWater
	placeOfWater
	placeAct
	placePassage
	places
)

// The most digits of a number, and the modulus of the check.
const (
	digits  = 2
	modulus = 127
)

// isWritten reports whether an order is as defined for a text.
func isWritten(o api.VoyageOrder) bool {
	s := o.State
	return within(s.Port, home+1, api.VoyagePorts-1) && within(s.Day, 0, api.VoyageDays) && within(s.Wind, 0, api.VoyageWinds-1) && within(s.Water, 0, api.VoyageCask) && within(o.Act, api.VoyageStay, api.VoyagePassages-1)
}

// areWritten reports whether orders are as defined for a text.
func areWritten(l []api.VoyageOrder) bool { return areInOrder(l) && all(l, isWritten) }

// Print returns the text of orders.
func Print(l []api.VoyageOrder) (string, api.Errno) {
	if !areWritten(l) {
		return "", api.ErrArg
	}
	return textOf(l), api.OK
}

// textOf returns the text of orders, be they as defined or not.
func textOf(l []api.VoyageOrder) string {
	lines := []string{ordersWord + blank + strconv.Itoa(len(l))}
	for _, o := range l {
		lines = append(lines, lineOf(o))
	}
	lines = append(lines, endWord+blank+check(lines...))
	return joined(lines...)
}

// lineOf returns the line of an order.
func lineOf(o api.VoyageOrder) string {
	s := o.State
	words := [places]string{
		placeOn: onWord, placeDay: strconv.Itoa(s.Day),
		placeAt: atWord, placePort: strconv.Itoa(s.Port),
		placeWind: windWord, placeOfWind: strconv.Itoa(s.Wind),
		placeWater: waterWord, placeOfWater: strconv.Itoa(s.Water),
		placeAct: sailWord, placePassage: strconv.Itoa(o.Act),
	}
	if o.Act != api.VoyageStay {
		return strings.Join(words[:], blank)
	}
	words[placeAct] = stayWord
	return strings.Join(words[:placePassage], blank)
}

// joined returns the text of some lines.
func joined(lines ...string) string { return strings.Join(lines, "\n") + "\n" }

// check returns the check of the lines before it.
func check(lines ...string) string {
	sum := 0
	for _, line := range lines {
		for i := range len(line) {
			sum += (i + 1) * int(line[i])
		}
	}
	number := strconv.Itoa(1000 + sum%modulus)
	return number[1:]
}

// Read returns the orders of a text.
func Read(text string) ([]api.VoyageOrder, api.Errno) {
	if len(text) > api.VoyageText {
		return nil, api.ErrLong
	}
	var l []api.VoyageOrder
	if e := attempt(func() { l = told(text) }); e != api.OK {
		return nil, e
	}
	if !areWritten(l) {
		return nil, api.ErrArg
	}
	return l, api.OK
}

// told returns the orders that a text tells, be they as defined or not, and gives up if the text is not just that of them.
func told(text string) []api.VoyageOrder {
	const before, behind = 1, 2 // the line of their number, and that of the check with what comes after its line feed
	lines := strings.Split(text, "\n")
	if len(lines) < before+behind {
		panic(noOrders{})
	}
	var l []api.VoyageOrder
	for _, line := range lines[before : len(lines)-behind] {
		l = append(l, orderOf(line))
	}
	if textOf(l) != text {
		panic(noOrders{})
	}
	return l
}

// orderOf returns the order of a line, and gives up if a number is missing. Other words than those of an order, and more of them, are noticed when the line is written again.
func orderOf(line string) api.VoyageOrder {
	var words [places]string
	copy(words[:], strings.Split(line, blank))
	act := api.VoyageStay
	if words[placeAct] == sailWord {
		act = number(words[placePassage])
	}
	return api.VoyageOrder{Act: act, State: api.VoyageState{
		Port: number(words[placePort]), Day: number(words[placeDay]),
		Wind: number(words[placeOfWind]), Water: number(words[placeOfWater]),
	}}
}

// number returns the number that a word is, and gives up if it is none. Leading zeros are noticed when the line is written again.
func number(word string) int {
	if !within(len(word), 1, digits) {
		panic(noOrders{})
	}
	n := 0
	for _, digit := range word {
		if digit < '0' || digit > '9' {
			panic(noOrders{})
		}
		n = 10*n + int(digit-'0')
	}
	return n
}
