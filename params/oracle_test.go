package params_test

import (
	"strings"

	"tactile/params"
)

// A step is what is told to a list, by one sign: a digit is that digit; ';' is
// a Next, 'c' a Clear, '-' a Digit below 0, '+' one above 9.
const steps = "0159;c-+"

// tell tells a list one step.
func tell(l *params.List, step byte) {
	switch step {
	case ';':
		l.Next()
	case 'c':
		l.Clear()
	case '-':
		l.Digit(-1)
	case '+':
		l.Digit(10)
	default:
		l.Digit(int(step - '0'))
	}
}

// told makes a list that was told these steps.
func told(steps string) *params.List {
	l := params.New()
	for i := range len(steps) {
		tell(l, steps[i])
	}
	return l
}

// says is what a list holds after these steps. It takes them as a whole, apart
// from how the program goes, so that a slip in either shows: what stands
// behind the last Clear, parted at each Next, is one number a part, of which
// the first 32 are held.
func says(steps string) []int {
	steps = steps[strings.LastIndex(steps, "c")+1:]
	steps = strings.NewReplacer("-", "", "+", "").Replace(steps)
	if steps == "" {
		return nil
	}
	var numbers []int
	for i, digits := range strings.Split(steps, ";") {
		if i < 32 {
			numbers = append(numbers, worth(digits))
		}
	}
	return numbers
}

// worth is the number that digits make, or the greatest one.
func worth(digits string) int {
	digits = strings.TrimLeft(digits, "0")
	if len(digits) > 5 || len(digits) == 5 && digits > "65535" {
		return 65535
	}
	n := 0
	for _, d := range digits {
		n = 10*n + int(d-'0')
	}
	return n
}

// everyRow hands each row of length steps.
func everyRow(length int, hand func(row string)) {
	row := make([]byte, length)
	var fill func(at int)
	fill = func(at int) {
		if at == length {
			hand(string(row))
			return
		}
		for i := range len(steps) {
			row[at] = steps[i]
			fill(at + 1)
		}
	}
	fill(0)
}
