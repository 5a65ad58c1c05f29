package desk

import (
	"strconv"
	"strings"

	"casemate/api"
)

// spaced is some words, with a blank between any two.
func spaced(words ...string) string {
	return strings.Join(words, " ")
}

// told is what a line tells: an error alone, or words.
func told(e api.Errno, words ...string) string {
	if e != api.OK {
		return spaced("err", decimal(int(e)))
	}
	return spaced(append([]string{"ok"}, words...)...)
}

// decimal is a number's word.
func decimal[N int | uint64](n N) string {
	return strconv.FormatUint(uint64(n), 10)
}

// decimals is the words of some numbers.
func decimals(numbers ...int) []string {
	var words []string
	for _, n := range numbers {
		words = append(words, decimal(n))
	}
	return words
}

// hexed is the word of some bytes.
func hexed(b []byte) string {
	var word strings.Builder
	for _, x := range b {
		word.WriteByte(digits[x>>4])
		word.WriteByte(digits[x&15])
	}
	return word.String()
}
