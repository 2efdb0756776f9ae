package prims

import "invigilator/api"

// What several primitives fit. Texts like these say it as the chapter's table does, with the result behind a colon, so that the two can be compared line by line.
const (
	number  = "i n: i n"
	numbers = "i n, i n: i n; i 0, i n: i n; i n, i 0: i n"
	alike   = "k n, k n: i n; k 0, k n: i n; k n, k 0: i n"
	rows    = "k 1: k 1; k 2: k 2"
	intRows = "i 1: i 1; i 2: i 2"
	fold    = "i 1: i 0; i 2: i 1"
	part    = "i 0, k 1: k 1"
)

// fit is one way in which operands fit: the letters of their kinds, and those of their ranks. The last letter of each is that of the result.
type fit struct{ kinds, ranks []rune }

// read returns the ways in which operands fit, of a text that says them.
func read(text string) []fit {
	var list []fit
	var next fit
	for _, r := range text {
		switch r {
		case 'i', 'k':
			next.kinds = append(next.kinds, r)
		case '0', '1', '2', 'n':
			next.ranks = append(next.ranks, r)
		case ';':
			list = append(list, next)
			next = fit{}
		}
	}
	return append(list, next)
}

// last returns for what the last letter stands if those before it stand for these values, and whether they can do so, as each value must be one from the least to the most. The letters k and n stand for any value, but for the same one wherever they are.
func last(letters []rune, values []int, least, most int) (int, bool) {
	stands := map[rune]int{'i': api.KInt, '0': 0, '1': 1, '2': 2}
	for i, value := range values {
		meant, known := stands[letters[i]]
		if known && value != meant || value < least || value > most {
			return 0, false
		}
		stands[letters[i]] = value
	}
	return stands[letters[len(values)]], true
}
