package model

import "slices"

// firstOrder takes the events but fences one by one, each time the least number that nothing left leads to; false, if something leads to each that is left.
func (j *judged) firstOrder() ([]int, bool) {
	leads := j.arrowsInOrder()
	left := j.placed()
	var taken []int
take:
	for len(left) > 0 {
		for i, number := range left {
			waits := slices.ContainsFunc(left, func(other int) bool { return leads.lead(other, number) })
			if !waits {
				taken = append(taken, number)
				left = slices.Delete(left, i, i+1)
				continue take
			}
		}
		return nil, false
	}
	return taken, true
}

// placed tells the numbers of the events that have a place in a global order, rising.
func (j *judged) placed() []int {
	var numbers []int
	for number, e := range j.Events {
		if !isFence(e) {
			numbers = append(numbers, number)
		}
	}
	return numbers
}
