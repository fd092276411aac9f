package wire

import (
	"strings"

	"hustings/api"
)

// The signs, by their values. Those from checksFrom on stand for a check alone.
const (
	signs      = "0123456789ABCDEFGHJKMNPQRSTVWXYZ*~$=U"
	checksFrom = 32
)

// textMost is how many bytes a text that is written in signs may have.
const textMost = 64

// Bits of a byte, and of a sign.
const (
	byteBits = 8
	signBits = 5
)

// signsFor is how many signs so many bytes are written in, without the check.
func signsFor(bytes int) int { return (byteBits*bytes + signBits - 1) / signBits }

// bytesIn is how many whole bytes lie in so many signs.
func bytesIn(signs int) int { return signBits * signs / byteBits }

// valuesOf is the values of the signs that a text is written in, without the check.
func valuesOf(b string) []byte {
	values, rest, left := regroup([]byte(b), byteBits, signBits)
	if left > 0 {
		values = append(values, rest<<(signBits-left))
	}
	return values
}

// textOf is the text that is written in signs with these values.
func textOf(values []byte) (string, api.Errno) {
	text, rest, _ := regroup(values, signBits, byteBits)
	if rest != 0 {
		return "", api.ErrForm
	}
	return string(text), api.OK
}

// regroup lays groups of bits one behind the other and takes them as groups of another size.
// What is no whole group any more is the rest, of so many bits as are left.
func regroup(groups []byte, from, to int) (out []byte, rest byte, left int) {
	held := uint(0)
	for _, group := range groups {
		held = held<<from | uint(group)
		left += from
		for left >= to {
			left -= to
			out = append(out, byte(held>>left))
			held &= 1<<left - 1
		}
	}
	return out, byte(held), left
}

// checkOf is the value of the check of signs with these values.
func checkOf(values []byte) byte {
	n := 0
	for _, value := range values {
		n = (n<<signBits + int(value)) % len(signs)
	}
	return byte(n)
}

// inFours is the signs of these values, with a hyphen between each four and the next ones.
func inFours(values []byte) string {
	var out strings.Builder
	for i, value := range values {
		if i > 0 && i%4 == 0 {
			out.WriteByte('-')
		}
		out.WriteByte(signs[value])
	}
	return out.String()
}

// readSigns is the values of the signs in a text, the check last; not ok, if these are not signs as they may stand.
func readSigns(s string) (values []byte, ok bool) {
	checked := false
	for _, letter := range s {
		if letter == '-' {
			continue
		}
		value := valueOf(letter)
		if value < 0 || checked {
			return nil, false
		}
		checked = value >= checksFrom
		values = append(values, byte(value))
	}
	return values, len(values) > 0
}

// valueOf is the value of a letter as a sign, whichever way people write it; below 0, if it is none.
func valueOf(letter rune) int {
	if letter >= 'a' && letter <= 'z' {
		letter += 'A' - 'a'
	}
	switch letter {
	case 'O':
		letter = '0'
	case 'I', 'L':
		letter = '1'
	}
	return strings.IndexRune(signs, letter)
}
