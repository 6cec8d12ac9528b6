// Package octal: numbers in fields of octal digits.
package octal

import "creel/api"

// Widths of fields, in bytes: the digits and the byte 0 behind them.
const (
	minWidth = 2
	maxWidth = 12
)

// digitBits are the bits of a number that one octal digit holds.
const digitBits = 3

// Most: the greatest number of a field (P1.1).
func Most(width int) (int, api.Errno) {
	if !isWidth(width) {
		return 0, api.ErrRange
	}
	return 1<<(digitBits*(width-1)) - 1, api.OK
}

// Write a number as a field (P1.2).
func Write(n, width int) (string, api.Errno) {
	most, err := Most(width)
	if err != api.OK {
		return "", err
	}
	if n < 0 || n > most {
		return "", api.ErrRange
	}
	field := make([]byte, width)
	for i := width - 2; i >= 0; i-- {
		field[i] = '0' + byte(n%8)
		n /= 8
	}
	return string(field), api.OK
}

// Read the number of a field (P1.3).
func Read(s string) (int, api.Errno) {
	if !isWidth(len(s)) {
		return 0, api.ErrRange
	}
	last := len(s) - 1
	n := 0
	for i := range last {
		if !isDigit(s[i]) {
			return 0, api.ErrForm
		}
		n = n*8 + int(s[i]-'0')
	}
	if s[last] != 0 {
		return 0, api.ErrForm
	}
	return n, api.OK
}

func isWidth(width int) bool { return minWidth <= width && width <= maxWidth }

func isDigit(b byte) bool { return '0' <= b && b <= '7' }
