package aes

import (
	"casemate/api"
	"casemate/gf"
)

const (
	keyCount  = 8                // words that are the key itself
	wordCount = 4 * (rounds + 1) // words in all: four for each round, and for what is ahead of them
)

// wordsOf is a key's words.
func wordsOf(key api.Key, boxes *[256]byte) [wordCount][4]byte {
	var words [wordCount][4]byte
	for i := range wordCount {
		if i < keyCount {
			copy(words[i][:], key[4*i:])
			continue
		}
		words[i] = words[i-keyCount]
		for k, x := range added(words[i-1], i, boxes) {
			words[i][k] ^= x
		}
	}
	return words
}

// added is what is xor'ed into the word of that number, of the word ahead of it.
func added(ahead [4]byte, number int, boxes *[256]byte) [4]byte {
	switch number % keyCount {
	case 0:
		out := [4]byte{boxes[ahead[1]], boxes[ahead[2]], boxes[ahead[3]], boxes[ahead[0]]}
		out[0] ^= gf.Power(2, number/keyCount-1)
		return out
	case 4:
		return [4]byte{boxes[ahead[0]], boxes[ahead[1]], boxes[ahead[2]], boxes[ahead[3]]}
	}
	return ahead
}
