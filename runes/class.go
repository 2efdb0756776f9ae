package runes

import (
	"strings"

	"invigilator/api"
)

// members has, for each class but RuOther, its runes.
var members = [...]string{
	api.RuSpace:  " ",
	api.RuBreak:  "\n",
	api.RuOpen:   "([",
	api.RuClose:  ")]",
	api.RuQuote:  `"`,
	api.RuDigit:  "0123456789",
	api.RuSign:   "-",
	api.RuLetter: "abcdefghijklmnopqrstuvwxyz",
	api.RuMark:   "<=",
}

// Class returns the class of a rune.
func Class(r int64) (int, api.Errno) {
	if !isRune(r) {
		return 0, api.ErrRange
	}
	for class, list := range members {
		if strings.ContainsRune(list, rune(r)) {
			return class, api.OK
		}
	}
	return api.RuOther, api.OK
}
