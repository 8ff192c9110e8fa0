package whole

import (
	"strconv"
	"strings"

	"quipu/api"
	"quipu/nat"
)

// Digits are read and told in chunks, of as many as surely go into one limb: the digits of a chunk, and 10 to that power.
const (
	chunkDigits = 19
	chunkUnit   = 10_000_000_000_000_000_000
)

// Text: the digits of a natural number.
func Text(a []uint64) string {
	chunks := cut(a)
	top := len(chunks) - 1
	if top < 0 {
		return "0"
	}
	var text strings.Builder
	text.WriteString(strconv.FormatUint(chunks[top], 10))
	for i := top - 1; i >= 0; i-- {
		digits := strconv.FormatUint(chunks[i], 10)
		text.WriteString(strings.Repeat("0", chunkDigits-len(digits)))
		text.WriteString(digits)
	}
	return text.String()
}

// cut answers the chunks of a's digits, the lowest first; none of 0.
func cut(a []uint64) []uint64 {
	var chunks []uint64
	unit := nat.Of(chunkUnit)
	for nat.Bits(a) > 0 {
		quotient, rest, _ := nat.DivMod(a, unit)
		chunk, _ := nat.Uint(rest)
		chunks = append(chunks, chunk)
		a = quotient
	}
	return chunks
}

// Parse: the natural number of digits.
func Parse(s string) ([]uint64, api.Errno) {
	if len(s) > api.MaxNumeral {
		return nil, api.ErrWholeLong
	}
	if !areDigits(s) {
		return nil, api.ErrWholeText
	}
	unit := nat.Of(chunkUnit)
	var number []uint64
	for s != "" {
		// Only the first chunk may be short, so that each later one moves what is ahead of it by the same power.
		size := (len(s)-1)%chunkDigits + 1
		number = nat.Add(nat.Mul(number, unit), nat.Of(chunkOf(s[:size])))
		s = s[size:]
	}
	return number, api.OK
}

// areDigits tells whether s is the digits of a number: no nought ahead, but of 0 itself.
func areDigits(s string) bool {
	if s == "" || s[0] == '0' && s != "0" {
		return false
	}
	for i := range len(s) {
		if s[i] < '0' || s[i] > '9' {
			return false
		}
	}
	return true
}

// chunkOf reads a chunk's digits, of which there are at most chunkDigits.
func chunkOf(digits string) uint64 {
	var chunk uint64
	for i := range len(digits) {
		chunk = chunk*10 + uint64(digits[i]-'0')
	}
	return chunk
}
