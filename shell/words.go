package shell

import (
	"strconv"
	"strings"

	"samphire/api"
	"samphire/word"
)

const (
	// How great a number may be, below 0 as above.
	greatest = 1_000_000
	minus    = "-"
	// It stands for a value without a byte, as no word is.
	noValue = "-"
)

// number is the one that a word is; a line without one is given up.
func number(s string) int {
	digits, below := strings.CutPrefix(s, minus)
	n, e := strconv.Atoi(digits)
	// Just one row of digits is a number's: so nothing else that is read as one is taken.
	if e != nil || n < 0 || n > greatest || strconv.Itoa(n) != digits || below && n == 0 {
		giveUp(api.ErrLine)
	}
	if below {
		return -n
	}
	return n
}

// isIdeal tells which of the two modes a word is; a line with neither is given up.
func isIdeal(s string) bool {
	if s != "ideal" && s != "real" {
		giveUp(api.ErrLine)
	}
	return s == "ideal"
}

// value is what a word lets be a node's.
func value(s string) string {
	if s == noValue {
		return ""
	}
	return s
}

// unhexed are the bytes of a word of digits; a line with another one is given up.
func unhexed(s string) string {
	b, e := word.Unhex(s)
	if e != api.OK {
		giveUp(api.ErrLine)
	}
	return b
}
