package scan

// quote and slash are the bytes of a text that do not stand for themselves; least and most are the first and the last byte that can.
const quote, slash, least, most = '"', '\\', ' ', '~'

const hexDigits = "0123456789abcdef"

// Quote writes a text.
func Quote(s string) string {
	out := []byte{quote}
	for i := 0; i < len(s); i++ {
		switch b := s[i]; {
		case b == quote || b == slash:
			out = append(out, slash, b)
		case b < least || b > most:
			out = append(out, slash, 'x', hexDigits[b>>4], hexDigits[b&15])
		default:
			out = append(out, b)
		}
	}
	return string(append(out, quote))
}

// Unquote is what a text says; false: s is not one text alone.
func Unquote(s string) (string, bool) {
	says, n := unquoted([]byte(s))
	if n == 0 || n != len(s) {
		return "", false
	}
	return string(says), true
}

// unquoted reads the text that s begins with: what it says, and how many bytes it has; 0: there is none, or it may not be.
func unquoted(s []byte) ([]byte, int) {
	if len(s) == 0 || s[0] != quote {
		return nil, 0
	}
	var says []byte
	for at := 1; ; {
		if at == len(s) || s[at] < least || s[at] > most {
			goto broken
		}
		if s[at] == quote {
			return says, at + 1
		}
		b, n := s[at], 1
		if b == slash {
			if b, n = escaped(s[at:]); n == 0 {
				goto broken
			}
		}
		says = append(says, b)
		at += n
	}
broken:
	return nil, 0
}

// escaped is the byte that s says with a slash ahead, and how many bytes that takes; 0: it says none.
func escaped(s []byte) (byte, int) {
	switch {
	case len(s) > 1 && (s[1] == quote || s[1] == slash):
		return s[1], 2
	case len(s) > 3 && s[1] == 'x':
		high, low := digit(s[2]), digit(s[3])
		if high < 16 && low < 16 {
			return high<<4 | low, 4
		}
	}
	return 0, 0
}

// digit is a hexadecimal digit's number; 16: it is none.
func digit(b byte) byte {
	switch {
	case '0' <= b && b <= '9':
		return b - '0'
	case 'a' <= b && b <= 'f':
		return b - 'a' + 10
	case 'A' <= b && b <= 'F':
		return b - 'A' + 10
	}
	return 16
}
