package digest

import "math/bits"

// sines is the table of RFC 1321: the whole part of 2^32 times the sine's amount at 1, 2 and so on.
var sines = [64]uint32{
	0xd76aa478, 0xe8c7b756, 0x242070db, 0xc1bdceee,
	0xf57c0faf, 0x4787c62a, 0xa8304613, 0xfd469501,
	0x698098d8, 0x8b44f7af, 0xffff5bb1, 0x895cd7be,
	0x6b901122, 0xfd987193, 0xa679438e, 0x49b40821,
	0xf61e2562, 0xc040b340, 0x265e5a51, 0xe9b6c7aa,
	0xd62f105d, 0x02441453, 0xd8a1e681, 0xe7d3fbc8,
	0x21e1cde6, 0xc33707d6, 0xf4d50d87, 0x455a14ed,
	0xa9e3e905, 0xfcefa3f8, 0x676f02d9, 0x8d2a4c8a,
	0xfffa3942, 0x8771f681, 0x6d9d6122, 0xfde5380c,
	0xa4beea44, 0x4bdecfa9, 0xf6bb4b60, 0xbebfbc70,
	0x289b7ec6, 0xeaa127fa, 0xd4ef3085, 0x04881d05,
	0xd9d4d039, 0xe6db99e5, 0x1fa27cf8, 0xc4ac5665,
	0xf4292244, 0x432aff97, 0xab9423a7, 0xfc93a039,
	0x655b59c3, 0x8f0ccc92, 0xffeff47d, 0x85845dd1,
	0x6fa87e4f, 0xfe2ce6e0, 0xa3014314, 0x4e0811a1,
	0xf7537e82, 0xbd3af235, 0x2ad7d2bb, 0xeb86d391,
}

// turns are the bits of the turns to the left, by turns, a row for every 16 steps.
var turns = [4][4]int{
	{7, 12, 17, 22},
	{5, 9, 14, 20},
	{4, 11, 16, 23},
	{6, 10, 15, 21},
}

// Md5 answers the digest of s, 16 bytes (P7.2).
func Md5(s string) string {
	sum := [4]uint32{0x67452301, 0xefcdab89, 0x98badcfe, 0x10325476}
	filled := s + leastFirst.filling(len(s))
	for i := range len(filled) / chunkSize {
		sum = md5Add(sum, leastFirst.words(filled, i))
	}
	return leastFirst.putWords(sum[:])
}

// md5Add answers the sum to which a chunk of these words brings it.
func md5Add(sum [4]uint32, m [wordCount]uint32) [4]uint32 {
	w := sum
	for i := range len(sines) {
		f, g := md5Mix(i, w)
		turned := bits.RotateLeft32(w[0]+f+sines[i]+m[g], turns[i/16][i%4])
		w = [4]uint32{w[3], w[1] + turned, w[1], w[2]}
	}
	for i := range sum {
		sum[i] += w[i]
	}
	return sum
}

// md5Mix answers what step i makes of all words but the first, and the place of the chunk's word that it takes.
func md5Mix(i int, w [4]uint32) (uint32, int) {
	b, c, d := w[1], w[2], w[3]
	switch i / 16 {
	case 0:
		return b&c | ^b&d, i
	case 1:
		return d&b | ^d&c, (5*i + 1) % wordCount
	case 2:
		return b ^ c ^ d, (3*i + 5) % wordCount
	}
	return c ^ (b | ^d), 7 * i % wordCount
}
