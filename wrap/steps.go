package wrap

import (
	"casemate/aes"
	"casemate/octet"
)

// times is how often each word is turned.
const times = 6

// turn turns each word with the one in front of them all, in order, over and over. The steps are counted from 1 on, for their count is what the document xor's: as many as there are words for each time before, and the word's number.
func turn(c *aes.Cipher, words []byte) {
	n := len(words)/size - 1
	step := 0
steps:
	for {
		for i := 1; i <= n; i++ {
			if step == times*n {
				break steps
			}
			step++
			put(words, i, counted(c.Turn(pair(words, i)), step))
		}
	}
}

// turnBack undoes turn, the last step first.
func turnBack(c *aes.Cipher, words []byte) {
	n := len(words)/size - 1
	step := times * n
steps:
	for {
		for i := n; i > 0; i-- {
			if step == 0 {
				break steps
			}
			put(words, i, c.Back(counted(pair(words, i), step)))
			step--
		}
	}
}

// pair is the word in front and the word of that number, one behind the other.
func pair(words []byte, number int) [2 * size]byte {
	var b [2 * size]byte
	copy(b[:size], words)
	copy(b[size:], words[number*size:])
	return b
}

// put lays a pair back where it came from.
func put(words []byte, number int, b [2 * size]byte) {
	copy(words, b[:size])
	copy(words[number*size:], b[size:])
}

// counted is a pair whose first word is xor'ed with a step's bytes.
func counted(b [2 * size]byte, step int) [2 * size]byte {
	for i, x := range octet.Put(uint64(step)) {
		b[i] ^= x
	}
	return b
}
