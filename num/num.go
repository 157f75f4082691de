// Package num is layer 1: numbers in digits: see shared/doc/01-num.md.
package num

import (
	"strconv"

	"snicket/api"
)

// farthest is how far from 0 a number that is read may be.
const farthest = 1 << 60

// Text is a number's digits.
func Text(n int) string { return strconv.Itoa(n) }

// Parse is the number whose digits they are.
func Parse(s string) (int, api.Errno) {
	return Between(s, -farthest, farthest)
}

// Between is one within bounds.
func Between(s string, lo, hi int) (int, api.Errno) {
	digits, below := s, false
	if s != "" && s[0] == '-' {
		digits, below = s[1:], true
	}
	// The whole text is looked at before its size is: ErrText is named first.
	if !areDigits(digits) || below && digits == "0" {
		return 0, api.ErrText
	}
	n, ok := amount(digits)
	if below {
		n = -n
	}
	if !ok || n < lo || n > hi {
		return 0, api.ErrRange
	}
	return n, api.OK
}

// areDigits tells whether s is the digits of a number that is not below 0.
func areDigits(s string) bool {
	if s == "" || s[0] == '0' && len(s) > 1 {
		return false
	}
	for i := range len(s) {
		if s[i] < '0' || s[i] > '9' {
			return false
		}
	}
	return true
}

// amount is the number of which s is the digits; false if it is beyond farthest.
func amount(s string) (int, bool) {
	n := 0
	for i := range len(s) {
		d := int(s[i] - '0')
		// Asked ahead of the step, for ten times farthest is more than an int holds.
		if n > (farthest-d)/10 {
			return 0, false
		}
		n = n*10 + d
	}
	return n, true
}

// Digits is how many digits a number has.
func Digits(n int) int {
	count := 1
	// Both signs are gone through as they are: the least int has no counterpart above 0.
	for n > 9 || n < -9 {
		n /= 10
		count++
	}
	return count
}

// List is numbers that are parted.
func List(s string, sep byte) ([]int, api.Errno) {
	if s == "" {
		return nil, api.OK
	}
	var list []int
	from := 0
	for i := range len(s) + 1 {
		if i < len(s) && s[i] != sep {
			continue
		}
		n, err := Parse(s[from:i])
		if err != api.OK {
			return nil, err
		}
		list = append(list, n)
		from = i + 1
	}
	return list, api.OK
}
