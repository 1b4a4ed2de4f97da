// Package number: numeric header fields, in octal or in base 256.
package number

import (
	"strings"

	"revetment/api"
)

const (
	minWidth       = 2
	maxWidth       = 20
	minBinaryWidth = 8
)

// A first byte of this or more marks a field in base 256: no octal digit,
// space or zero byte reaches it.
const (
	binaryPositive = 128
	binaryNegative = 255
)

// Most is the greatest number that fits in octal into a field of width bytes,
// the last of which is not a digit; it is 0 for a width that no field has.
func Most(width int) int {
	if width < minWidth || width > maxWidth {
		return 0
	}
	return 1<<(3*(width-1)) - 1
}

// Octal returns n as width - 1 octal digits and a zero byte.
func Octal(n, width int) (string, error) {
	if width < minWidth || width > maxWidth {
		return "", api.ErrArg
	}
	if n < 0 || n > Most(width) {
		return "", api.ErrRange
	}
	field := make([]byte, width)
	for i := range width - 1 {
		field[width-2-i] = '0' + byte(n&7)
		n >>= 3
	}
	return string(field), nil
}

// Binary returns n in base 256, most significant byte first, behind a first
// byte that tells its sign.
func Binary(n, width int) (string, error) {
	if width < minBinaryWidth || width > maxWidth {
		return "", api.ErrArg
	}
	// Any wider field has room for all 64 bits behind its first byte.
	if width == minBinaryWidth && (n < -1<<55 || n > 1<<55-1) {
		return "", api.ErrRange
	}
	field := make([]byte, width)
	field[0] = binaryPositive
	if n < 0 {
		field[0] = binaryNegative
	}
	for i := range width - 1 {
		field[width-1-i] = byte(n)
		n >>= 8
	}
	return string(field), nil
}

// Write returns n in octal or, where it does not fit and binary allows it, in
// base 256.
func Write(n, width int, binary bool) (string, error) {
	field, err := Octal(n, width)
	if err == api.ErrRange && binary && width >= minBinaryWidth {
		return Binary(n, width)
	}
	return field, err
}

// Read returns the number in a field.
func Read(s string) (int, error) {
	if s == "" {
		return 0, api.ErrForm
	}
	if s[0] >= binaryPositive {
		return readBinary(s)
	}
	return readOctal(strings.TrimRight(strings.TrimLeft(s, " "), " \x00"))
}

// readBinary sees a first byte of 255 as a sign, not as seven bits set: so a
// negative number may have any number of such bytes ahead.
func readBinary(s string) (int, error) {
	n := int(s[0] - binaryPositive)
	if s[0] == binaryNegative {
		n = -1
	}
	for i := range len(s) - 1 {
		if n < -1<<55 || n > 1<<55-1 {
			return 0, api.ErrRange
		}
		n = n<<8 | int(s[i+1])
	}
	return n, nil
}

func readOctal(digits string) (int, error) {
	n := 0
	for i := range len(digits) {
		if digits[i] < '0' || digits[i] > '7' {
			return 0, api.ErrForm
		}
		if n >= 1<<60 {
			return 0, api.ErrRange
		}
		n = n<<3 | int(digits[i]-'0')
	}
	return n, nil
}
