package tlv

import "wharf/api"

// isWidth tells whether numbers of so many bytes are written.
func isWidth(width int) bool {
	return width == 1 || width == 2 || width == 4
}

// Int answers n in width bytes, the greatest first (P11.1).
func Int(n int64, width int) (string, api.Errno) {
	if !isWidth(width) || n < 0 || n >= 1<<(8*width) {
		return "", api.ErrArg
	}
	b := make([]byte, width)
	for i := range b {
		b[width-1-i] = byte(n >> (8 * i))
	}
	return string(b), api.OK
}

// Num answers the number whose Int s is (P11.1).
func Num(s string) (int64, api.Errno) {
	if !isWidth(len(s)) {
		return 0, api.ErrTlv
	}
	var n int64
	for i := range len(s) {
		n = n<<8 | int64(s[i])
	}
	return n, api.OK
}
