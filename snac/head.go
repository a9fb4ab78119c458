package snac

import (
	"wharf/api"
	"wharf/tlv"
)

// headSize is of how many bytes the head is: all of its widths.
const headSize = 10

// widths are of how many bytes each number of a head is.
var widths = [4]int{2, 2, 2, 4}

// head is the numbers ahead of a Body, in the order in which they are written: Family, Sub, Flags, Req.
type head [4]int64

func headOf(s api.Snac) head {
	return head{int64(s.Family), int64(s.Sub), int64(s.Flags), s.Req}
}

// fits tells whether each number is one of so many bytes.
func (h head) fits() bool {
	for i, n := range h {
		if n < 0 || n >= 1<<(8*widths[i]) {
			return false
		}
	}
	return true
}

// put answers the bytes of numbers that fit, so that none of them can be refused.
func (h head) put() string {
	b := ""
	for i, n := range h {
		one, _ := tlv.Int(n, widths[i])
		b += one
	}
	return b
}

// readHead answers the numbers that b begins with, which has headSize bytes at least.
func readHead(b string) head {
	var h head
	for i, width := range widths {
		h[i], _ = tlv.Num(b[:width])
		b = b[width:]
	}
	return h
}
