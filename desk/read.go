package desk

import (
	"strconv"
	"strings"
)

// digits is the digits of bytes.
const digits = "0123456789abcdef"

// order is what a line says.
type order struct {
	what    string // its first word
	numbers []int
	bytes   []byte
}

// formOf is what stands behind a first word: for each word a letter, n of a number, b of bytes; and whether there is such a first word.
func formOf(what string) (string, bool) {
	switch what {
	case "next", "sessions", "books", "state":
		return "", true
	case "pick", "fail", "waits", "look":
		return "n", true
	case "tamper":
		return "nn", true
	case "submit", "crash":
		return "b", true
	}
	return "", false
}

// read is what a line says, if it is one. A word that is empty, where a blank is one too many, is none that may be there; nor is one of other bytes than words have.
func read(line string) (order, bool) {
	words := strings.Split(line, " ")
	o := order{what: words[0]}
	form, known := formOf(o.what)
	if !known || len(form) != len(words)-1 {
		return order{}, false
	}
	for i, word := range words[1:] {
		is := false
		switch form[i] {
		case 'n':
			var n int
			n, is = number(word)
			o.numbers = append(o.numbers, n)
		case 'b':
			o.bytes, is = octets(word)
		}
		if !is {
			return order{}, false
		}
	}
	return o, true
}

// number is a word's number, if it is one. One that is written otherwise has noughts that it does not need.
func number(word string) (int, bool) {
	n, e := strconv.ParseUint(word, 10, 16)
	return int(n), e == nil && decimal(n) == word
}

// octets is a word's bytes, if it is some, or none.
func octets(word string) ([]byte, bool) {
	if word == "-" {
		return nil, true
	}
	if word == "" || len(word)%2 != 0 {
		return nil, false
	}
	b := make([]byte, len(word)/2)
	for i := range b {
		high, low := strings.IndexByte(digits, word[2*i]), strings.IndexByte(digits, word[2*i+1])
		if high < 0 || low < 0 {
			return nil, false
		}
		b[i] = byte(high<<4 | low)
	}
	return b, true
}
