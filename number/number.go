// Package number: whole numbers as bytes, the highest one first.
package number

// Append a number to bytes, in so many of them.
func Append(b []byte, n, many int) []byte {
	for i := many - 1; i >= 0; i-- {
		b = append(b, byte(n>>(8*i)))
	}
	return b
}

// Of bytes: the number that they are.
func Of(b []byte) int {
	n := 0
	for _, c := range b {
		n = n<<8 | int(c)
	}
	return n
}
