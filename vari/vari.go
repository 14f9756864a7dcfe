// Package vari is layer 1: numbers as few bytes.
package vari

// most is how many digits of seven bits a number of 64 bits can have.
const most = 10

// Zig tells a number with a sign as one without, so that small ones stay small.
func Zig(n int64) uint64 {
	return uint64(n)<<1 ^ uint64(n>>63)
}

// Zag tells the number whose Zig u is.
func Zag(u uint64) int64 {
	return int64(u>>1) ^ -int64(u&1)
}

// Put tells u in digits of seven bits, the least ahead.
func Put(u uint64) string {
	var digits [most]byte
	n := 0
	for ; u >= 128; u >>= 7 {
		digits[n] = byte(u) | 128
		n++
	}
	digits[n] = byte(u)
	return string(digits[:n+1])
}

// Get tells the number that stands in s at at, and where what is behind it begins.
func Get(s string, at int) (u uint64, next int, ok bool) {
	if at < 0 || at >= len(s) {
		return 0, 0, false
	}
	n := 0
	for ; n < len(s)-at && n < most; n++ {
		digit := s[at+n]
		// Of the tenth digit only one bit has room in 64.
		if n == most-1 && digit > 1 {
			return 0, 0, false
		}
		u |= uint64(digit&127) << (7 * uint(n))
		if digit < 128 {
			if digit == 0 && n > 0 {
				return 0, 0, false
			}
			return u, at + n + 1, true
		}
	}
	return 0, 0, false
}

// PutInt is Put of a number with a sign.
func PutInt(n int64) string {
	return Put(Zig(n))
}

// GetInt is Get of a number with a sign.
func GetInt(s string, at int) (n int64, next int, ok bool) {
	u, next, ok := Get(s, at)
	return Zag(u), next, ok
}
