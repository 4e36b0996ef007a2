package record

import (
	"slices"
	"strings"

	"versions/api"
)

// letters are what paths and names are made of. A text is a number whose digits they are, from 1 on: so it takes less than a byte a letter. No digit is 0: so the first letter counts too.
const letters = "abcdefghijklmnopqrstuvwxyz0123456789.-_/"

// base is how many digits there are, with the 0.
const base = uint(len(letters) + 1)

// maxText is how many bytes a text of MaxPath letters has at the most.
const maxText = 14

// appendText appends a text, its lowest byte first.
func appendText(b []byte, s string) []byte {
	begin := len(b)
	for _, r := range s {
		carry := uint(strings.IndexRune(letters, r) + 1)
		for i := begin; i < len(b); i++ {
			carry += uint(b[i]) * base
			b[i] = byte(carry)
			carry >>= 8
		}
		if carry > 0 {
			b = append(b, byte(carry))
		}
	}
	return b
}

// textOf is the text that the bytes are. It tells whether they are one.
func textOf(b []byte) (string, bool) {
	if len(b) > maxText || len(b) > 0 && b[len(b)-1] == 0 {
		return "", false
	}
	var s []byte
	for rest := slices.Clone(b); len(rest) > 0; {
		var digit uint
		if rest, digit = divide(rest); digit == 0 {
			return "", false
		}
		s = append(s, letters[digit-1])
	}
	slices.Reverse(s)
	return string(s), len(s) <= api.MaxPath
}

// divide divides a number by the base, in place, and tells what is left over. Highest bytes that are 0 then are left out.
func divide(b []byte) ([]byte, uint) {
	var over uint
	for i, x := range slices.Backward(b) {
		over = over<<8 | uint(x)
		b[i] = byte(over / base)
		over %= base
	}
	for len(b) > 0 && b[len(b)-1] == 0 {
		b = b[:len(b)-1]
	}
	return b, over
}
