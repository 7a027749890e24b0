package clocks

import "sublet/api"

// times of clocks, a list of one a clock.
type times struct {
	// They stand in an array, so that clocks that are copied go on apart.
	now  [api.MaxNodes]int
	size int // of the array's times, those that are a clock's
}

// anyPassesEnd: would a clock pass its end, if they went on by these?
func (t *times) anyPassesEnd(by []int) bool {
	for i, a := range by {
		if passesEnd(t.now[i], a) {
			return true
		}
	}
	return false
}

// goOn: each clock goes on by its number.
func (t *times) goOn(by []int) {
	for i, a := range by {
		t.now[i] += a
	}
}

// goesBack: would a time, going on by a, go back?
func goesBack(a int) bool { return a < 0 }

// passesEnd: would a time, going on by a, pass the end?
func passesEnd(now, a int) bool {
	// What is left is compared, since the sum may be more than a number may be.
	return a > api.MaxTime-now
}
