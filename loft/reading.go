package loft

import (
	"iter"

	"bathyal/api"
)

// reading is a rule with a reading; Pore and Size are the errors.
type reading struct {
	api.LoftRule
	read api.LoftReading
}

// around returns the numbers from 0 to most that differ from a number by at most an error.
func around(n, off, most int) api.Span {
	return api.Span{Low: max(n-off, 0), High: min(n+off, most)}
}

// forms yields the forms of the reading.
func (r reading) forms() iter.Seq[int] {
	return func(yield func(int) bool) {
		for form := range api.LoftForms {
			if has(r.read.Forms, form) && !yield(form) {
				return
			}
		}
	}
}

// pores yields the pores that can be read so.
func (r reading) pores() iter.Seq[int] { return numbers(around(r.read.Pore, r.Pore, api.LoftPore)) }

// sizes yields the sizes that can be read so.
func (r reading) sizes() iter.Seq[int] { return numbers(around(r.read.Size, r.Size, api.LoftSize)) }

// sponges yields all sponges that can be read so.
func (r reading) sponges() iter.Seq[api.LoftSponge] {
	return func(yield func(api.LoftSponge) bool) {
		for form := range r.forms() {
			for pore := range r.pores() {
				for size := range r.sizes() {
					if !yield(api.LoftSponge{Form: form, Pore: pore, Size: size}) {
						return
					}
				}
			}
		}
	}
}

// grades returns the grades of all sponges that can be read so, in increasing order.
func (r reading) grades() []int {
	var can [1 + api.LoftMany]bool
	for s := range r.sponges() {
		can[gradeOf(r.LoftRule, s)-refuse] = true
	}
	var grades []int
	for place, is := range can {
		if is {
			grades = append(grades, refuse+place)
		}
	}
	return grades
}

// Could returns the grades that a sponge can be that was read so.
func Could(r api.LoftRule, x api.LoftReading) ([]int, api.Errno) {
	if Check(r) != api.OK || !isReading(x) {
		return nil, api.ErrArg
	}
	return reading{r, x}.grades(), api.OK
}

// Writes returns the grades that a sorter can write of a sponge. They are those of all sponges that could be read as this one.
func Writes(r api.LoftRule, s api.LoftSponge) ([]int, api.Errno) {
	if Check(r) != api.OK || !isSponge(s) {
		return nil, api.ErrArg
	}
	return reading{r, api.LoftReading{Forms: 1 << s.Form, Pore: s.Pore, Size: s.Size}}.grades(), api.OK
}

// Others returns the grades that another sorter can write, for a reading. The sponge is off the reading by the errors, and what the other sorter reads is off the sponge by them again.
func Others(r api.LoftRule, x api.LoftReading) ([]int, api.Errno) {
	if Check(r) != api.OK || !isReading(x) {
		return nil, api.ErrArg
	}
	r.Pore *= 2
	r.Size *= 2
	return reading{r, x}.grades(), api.OK
}

// The looks, in their order.
const (
	atForm = iota
	atPore
	atSize
	looks
)

// formSeen yields what is known after a look at the form, for each form that can be seen.
func (r reading) formSeen() iter.Seq[reading] {
	return func(yield func(reading) bool) {
		for form := range r.forms() {
			after := r
			after.read.Forms = 1 << form
			if !yield(after) {
				return
			}
		}
	}
}

// poreSeen yields what is known after a look at the pore, for each pore that can be seen.
func (r reading) poreSeen() iter.Seq[reading] {
	return func(yield func(reading) bool) {
		for pore := range r.pores() {
			after := r
			after.read.Pore, after.Pore = pore, 0
			if !yield(after) {
				return
			}
		}
	}
}

// sizeSeen yields what is known after a look at the size, for each size that can be seen.
func (r reading) sizeSeen() iter.Seq[reading] {
	return func(yield func(reading) bool) {
		for size := range r.sizes() {
			after := r
			after.read.Size, after.Size = size, 0
			if !yield(after) {
				return
			}
		}
	}
}

// looked is a look with its worst number.
type looked struct {
	look  api.LoftLook
	worst int
}

// looks yields all looks.
func (r reading) looks() iter.Seq[looked] {
	return func(yield func(looked) bool) {
		all := [looks]func() iter.Seq[reading]{atForm: r.formSeen, atPore: r.poreSeen, atSize: r.sizeSeen}
		for look, seen := range all {
			worst := 0
			for after := range seen() {
				worst = max(worst, len(after.grades()))
			}
			if !yield(looked{api.LoftLookForm + api.LoftLook(look), worst}) {
				return
			}
		}
	}
}

// Look returns the look with the least worst number, and that number.
func Look(r api.LoftRule, x api.LoftReading) (api.LoftLook, int, api.Errno) {
	if Check(r) != api.OK || !isReading(x) {
		return 0, 0, api.ErrArg
	}
	known := reading{r, x}
	if len(known.grades()) == 1 {
		return 0, 0, api.ErrNone
	}
	found, _ := best(known.looks(), func(a, b looked) bool { return a.worst < b.worst })
	return found.look, found.worst, api.OK
}
