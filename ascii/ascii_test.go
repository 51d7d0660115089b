package ascii

import (
	"strings"
	"testing"
)

func TestBytes(t *testing.T) {
	for c := range 256 {
		letter := strings.IndexByte("abcdefghijklmnopqrstuvwxyzABCDEFGHIJKLMNOPQRSTUVWXYZ", byte(c)) >= 0
		digit := strings.IndexByte("0123456789", byte(c)) >= 0
		s := string([]byte{byte(c)})
		if IsLetter(byte(c)) != letter || IsDigit(byte(c)) != digit || Only(s, "") != (letter || digit) || Only(s, "-_") != (letter || digit || c == '-' || c == '_') {
			t.Error(c)
		}
		want := s
		if letter {
			want = strings.ToLower(s)
		}
		if Small(s) != want || Same(s, want) != true {
			t.Error(c, Small(s))
		}
	}
}

func TestSame(t *testing.T) {
	for _, c := range []struct {
		a, b string
		want bool
	}{{"", "", true}, {"a", "", false}, {"aBc", "AbC", true}, {"a", "b", false}, {"k", "\u212a", false}, {"s", "\u017f", false}, {"É", "é", false}, {"É", "É", true}, {"@", "`", false}, {"[", "{", false}} {
		if Same(c.a, c.b) != c.want || Same(c.b, c.a) != c.want {
			t.Error(c)
		}
	}
}
