// Package ascii stands beside the layers: letters and digits of ASCII, and large letters as good as small ones.
package ascii

import "strings"

// IsLetter tells whether a byte is a letter.
func IsLetter(c byte) bool { return c >= 'a' && c <= 'z' || c >= 'A' && c <= 'Z' }

// IsDigit tells whether a byte is a decimal digit.
func IsDigit(c byte) bool { return c >= '0' && c <= '9' }

// Only tells whether a text is letters, digits and bytes of others alone.
func Only(s, others string) bool {
	for i := 0; i < len(s); i++ {
		if !IsLetter(s[i]) && !IsDigit(s[i]) && strings.IndexByte(others, s[i]) < 0 {
			return false
		}
	}
	return true
}

// Small is a text with its large letters made small. (The library's way would make letters of ASCII of others, too.)
func Small(s string) string {
	b := []byte(s)
	for i, c := range b {
		if c >= 'A' && c <= 'Z' {
			b[i] = c - 'A' + 'a'
		}
	}
	return string(b)
}

// Same tells whether two texts are the same but for large and small letters.
func Same(a, b string) bool { return len(a) == len(b) && Small(a) == Small(b) }
