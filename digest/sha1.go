package digest

import "math/bits"

const sha1Steps = 80

// Sha1 answers the digest of s, 20 bytes (P7.3).
func Sha1(s string) string {
	sum := [5]uint32{0x67452301, 0xefcdab89, 0x98badcfe, 0x10325476, 0xc3d2e1f0}
	filled := s + greatestFirst.filling(len(s))
	for i := range len(filled) / chunkSize {
		sum = sha1Add(sum, greatestFirst.words(filled, i))
	}
	return greatestFirst.putWords(sum[:])
}

// sha1Add answers the sum to which a chunk of these words brings it.
func sha1Add(sum [5]uint32, m [wordCount]uint32) [5]uint32 {
	w := sum
	spread := sha1Spread(m)
	for t := range sha1Steps {
		f, k := sha1Mix(t, w)
		x := bits.RotateLeft32(w[0], 5) + f + w[4] + spread[t] + k
		w = [5]uint32{x, w[0], bits.RotateLeft32(w[1], 30), w[2], w[3]}
	}
	for i := range sum {
		sum[i] += w[i]
	}
	return sum
}

// sha1Spread answers a word for each step.
func sha1Spread(m [wordCount]uint32) [sha1Steps]uint32 {
	var w [sha1Steps]uint32
	copy(w[:], m[:])
	for t := wordCount; t < sha1Steps; t++ {
		w[t] = bits.RotateLeft32(w[t-3]^w[t-8]^w[t-14]^w[t-16], 1)
	}
	return w
}

// sha1Mix answers what step t makes of the three words in the middle, and what it adds besides.
func sha1Mix(t int, w [5]uint32) (uint32, uint32) {
	b, c, d := w[1], w[2], w[3]
	switch t / 20 {
	case 0:
		return b&c | ^b&d, 0x5a827999
	case 1:
		return b ^ c ^ d, 0x6ed9eba1
	case 2:
		return b&c | b&d | c&d, 0x8f1bbcdc
	}
	return b ^ c ^ d, 0xca62c1d6
}
