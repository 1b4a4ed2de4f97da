// Package block: blocks and header checksums.
package block

import (
	"strings"

	"revetment/api"
	"revetment/number"
)

// The bytes of a header that hold its checksum.
const (
	sumAt  = 148
	sumEnd = 156
)

// Pad is how many bytes are missing from n to the next multiple of Block.
func Pad(n int) int {
	if n < 0 {
		return 0
	}
	return (api.Block - n%api.Block) % api.Block
}

// Fill returns s with zero bytes behind it up to the end of a block.
func Fill(s string) string {
	pad := Pad(len(s))
	var b strings.Builder
	b.Grow(len(s) + pad)
	b.WriteString(s)
	for range pad {
		b.WriteByte(0)
	}
	return b.String()
}

// Zero reports whether s is a block of zero bytes.
func Zero(s string) bool {
	if len(s) != api.Block {
		return false
	}
	for i := range len(s) {
		if s[i] != 0 {
			return false
		}
	}
	return true
}

// Sum is the checksum of a header. Some old programs summed signed bytes, so
// both sums are in use.
func Sum(s string, signed bool) (int, error) {
	if len(s) != api.Block {
		return 0, api.ErrArg
	}
	sum := 0
	for i := range len(s) {
		switch {
		case i >= sumAt && i < sumEnd:
			sum += ' '
		case signed:
			sum += int(int8(s[i]))
		default:
			sum += int(s[i])
		}
	}
	return sum, nil
}

// Seal returns a header with its unsigned checksum in it.
func Seal(s string) (string, error) {
	sum, err := Sum(s, false)
	if err != nil {
		return "", err
	}
	// The field's last byte is a space, so the number has one byte less.
	digits, err := number.Octal(sum, sumEnd-sumAt-1)
	if err != nil {
		return "", err
	}
	return s[:sumAt] + digits + " " + s[sumEnd:], nil
}

// Right reports whether the checksum in a header is one of its two checksums.
func Right(s string) bool {
	if len(s) != api.Block {
		return false
	}
	told, err := number.Read(s[sumAt:sumEnd])
	if err != nil {
		return false
	}
	for _, signed := range []bool{false, true} {
		sum, err := Sum(s, signed)
		if err == nil && sum == told {
			return true
		}
	}
	return false
}
