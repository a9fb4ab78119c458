package digest

import "strings"

const (
	chunkSize = 64 // bytes that are taken at a time
	chunkData = 56 // of these in the last chunk, ahead of the number of bits
	countSize = 8  // bytes of the number of bits
	wordCount = 16 // of a chunk
	wordSize  = 4  // bytes
)

// order is that of the bytes of a number: in it alone the two digests fill and read a text differently.
type order int

const (
	leastFirst order = iota
	greatestFirst
)

// shift answers by how many bits byte i of a number of size bytes is shifted in it.
func (o order) shift(i, size int) int {
	if o == greatestFirst {
		i = size - 1 - i
	}
	return 8 * i
}

func (o order) put(n uint64, size int) string {
	var out strings.Builder
	for i := range size {
		out.WriteByte(byte(n >> o.shift(i, size)))
	}
	return out.String()
}

func (o order) putWords(words []uint32) string {
	var out strings.Builder
	for _, w := range words {
		out.WriteString(o.put(uint64(w), wordSize))
	}
	return out.String()
}

// filling answers what fills a text of size bytes (P7.1).
func (o order) filling(size int) string {
	zeros := chunkData - 1 - size%chunkSize
	if zeros < 0 {
		zeros += chunkSize
	}
	return "\x80" + strings.Repeat("\x00", zeros) + o.put(uint64(size)*8, countSize)
}

// words answers those of chunk i of a filled text.
func (o order) words(filled string, i int) [wordCount]uint32 {
	chunk := filled[i*chunkSize : (i+1)*chunkSize]
	var m [wordCount]uint32
	for at := range chunkSize {
		m[at/wordSize] |= uint32(chunk[at]) << o.shift(at%wordSize, wordSize)
	}
	return m
}
