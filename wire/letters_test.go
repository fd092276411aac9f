package wire_test

import (
	"math/big"
	"math/rand/v2"
	"strings"
	"testing"

	"hustings/api"
	"hustings/wire"
)

const signs = "0123456789ABCDEFGHJKMNPQRSTVWXYZ*~$=U"

// plainSigns is the signs of a text as the chapter says it, without hyphens: of the text as one number.
func plainSigns(b string) string {
	n, count := new(big.Int).SetBytes([]byte(b)), 0
	for 5*count < 8*len(b) {
		count++
	}
	n.Lsh(n, uint(5*count-8*len(b)))
	return digits32(n, count) + string(signs[new(big.Int).Mod(n, big.NewInt(37)).Int64()])
}

// digits32 is a number to the base 32, in so many signs.
func digits32(n *big.Int, count int) string {
	out := ""
	rest, digit := new(big.Int).Set(n), new(big.Int)
	for range count {
		rest.DivMod(rest, big.NewInt(32), digit)
		out = string(signs[digit.Int64()]) + out
	}
	return out
}

// checked is signs with their check behind them.
func checked(body string) string {
	n := new(big.Int)
	for _, sign := range body {
		n.Mul(n, big.NewInt(32)).Add(n, big.NewInt(int64(strings.IndexRune(signs, sign))))
	}
	return body + string(signs[n.Mod(n, big.NewInt(37)).Int64()])
}

// fours is signs with hyphens.
func fours(s string) string {
	out := ""
	for len(s) > 4 {
		out, s = out+s[:4]+"-", s[4:]
	}
	return out + s
}

// texts are some of every length that there may be: zeros, ones, and others.
func texts(dice *rand.Rand) []string {
	var out []string
	for size := range 65 {
		out = append(out, repeated("\x00", size), repeated("\xff", size), anyText(dice, size), anyText(dice, size))
	}
	return out
}

func TestW3Letters(t *testing.T) {
	answers(t, wire.Letters, "hello", "D1JP-RV3F-J", api.OK)
	answers(t, wire.Letters, "", "0", api.OK)
	answers(t, wire.Letters, "\x00", "000", api.OK)
	answers(t, wire.Letters, "\xff\xff", "ZZZG-H", api.OK)
	for _, b := range texts(rand.New(rand.NewPCG(4, 4))) {
		answers(t, wire.Letters, b, fours(plainSigns(b)), api.OK)
	}
}

// The hyphen stands behind a fourth sign only where another one follows: none stands at the end.
func TestW3Hyphens(t *testing.T) {
	for size, want := range []int{1, 3, 5 + 1, 6 + 1, 8 + 1, 9 + 2, 11 + 2, 13 + 3} {
		s, _ := wire.Letters(repeated("x", size))
		if len(s) != want || strings.HasSuffix(s, "-") {
			t.Errorf("a text of %d bytes comes as %q, not in %d signs and hyphens", size, s, want)
		}
	}
}

// Each check comes of some text.
func TestW3AllChecks(t *testing.T) {
	seen := map[byte]bool{}
	for n := range 256 {
		b := string([]byte{byte(n), 7})
		s, e := wire.Letters(b)
		if e != api.OK || s != fours(plainSigns(b)) {
			t.Errorf("%q %d comes, not %q", s, e, fours(plainSigns(b)))
		}
		seen[s[len(s)-1]] = true
		answers(t, wire.FromLetters, s, b, api.OK)
	}
	if len(seen) != len(signs) {
		t.Errorf("%d checks come, not %d", len(seen), len(signs))
	}
}

func TestW3Long(t *testing.T) {
	answers(t, wire.Letters, repeated("\x00", 64), fours(repeated("0", 104)), api.OK)
	for _, size := range []int{65, 66, 100, 1000} {
		answers(t, wire.Letters, repeated("\x00", size), "", api.ErrLong)
	}
}

func TestW4FromLetters(t *testing.T) {
	for _, b := range texts(rand.New(rand.NewPCG(4, 5))) {
		s := fours(plainSigns(b))
		answers(t, wire.FromLetters, s, b, api.OK)
		answers(t, wire.FromLetters, strings.ToLower(s), b, api.OK)
		answers(t, wire.FromLetters, strings.ReplaceAll(s, "-", ""), b, api.OK)
		answers(t, wire.FromLetters, "--"+strings.Join(strings.Split(s, ""), "-")+"--", b, api.OK)
		for _, zero := range []string{"O", "o"} {
			for _, one := range []string{"I", "i", "L", "l"} {
				answers(t, wire.FromLetters, strings.NewReplacer("0", zero, "1", one).Replace(s), b, api.OK)
			}
		}
	}
}

func TestW4Form(t *testing.T) {
	for _, s := range []string{
		"", "-", "-----", "!", "0!", "u!", "!0", " 0", "0 ", "0\n", "\x000", "0_", "0+",
		"*0", "~0", "$0", "=0", "U0", "u0", "**", "*U", "00*0", "0-U-0", "D1JP-RV3F-J*", "D1JP-*V3F-J", "D1JP*RV3F-J", "UUUU",
		"\xff", "0\xff", "\xc3", "0é", "D1JP\u2010RV3F-J", "D1JP\u2013RV3F-J", "\u041e", "0\ufffd", "０",
	} {
		answers(t, wire.FromLetters, s, "", api.ErrForm)
	}
}

// Every letter that is no sign, and is not read as one, is told; others that are small or great forms of signs only
// beyond the alphabet are none.
func TestW4Letters(t *testing.T) {
	for letter := rune(0); letter < 0x3000; letter++ {
		s := checked("00000000") + string(letter)
		want := api.ErrForm
		switch {
		case letter == '-':
			want = api.OK
		case letter < 128 && strings.ContainsRune(signs+"OIL", []rune(strings.ToUpper(string(letter)))[0]):
			continue
		}
		answers(t, wire.FromLetters, s, map[bool]string{true: "\x00\x00\x00\x00\x00"}[want == api.OK], want)
	}
}

func TestW4Lengths(t *testing.T) {
	fits := map[int]int{}
	for size := range 65 {
		fits[len(plainSigns(repeated("\x00", size)))-1] = size
	}
	for count := range 104 {
		size, ok := fits[count]
		if ok {
			answers(t, wire.FromLetters, repeated("0", count+1), repeated("\x00", size), api.OK)
			answers(t, wire.FromLetters, repeated("0", count)+"1", "", api.ErrProof)
			continue
		}
		answers(t, wire.FromLetters, repeated("0", count+1), "", api.ErrForm)
		answers(t, wire.FromLetters, repeated("0", count)+"1", "", api.ErrForm)
	}
	for _, count := range []int{104, 105, 106, 108, 1000, 100_001} {
		answers(t, wire.FromLetters, repeated("0", count+1), "", api.ErrLong)
		answers(t, wire.FromLetters, repeated("0", count)+"*", "", api.ErrLong)
		answers(t, wire.FromLetters, repeated("0", count)+"!", "", api.ErrForm)
		answers(t, wire.FromLetters, "*"+repeated("0", count), "", api.ErrForm)
	}
	answers(t, wire.FromLetters, repeated("-", 1000)+repeated("-0", 104), repeated("\x00", 64), api.OK)
}

// Of one byte and less all signs are tried, with all checks.
func TestW4AllShort(t *testing.T) {
	for _, check := range signs {
		answers(t, wire.FromLetters, string(check), "", map[bool]api.Errno{true: api.OK, false: api.ErrProof}[check == '0'])
		for i := range 32 {
			answers(t, wire.FromLetters, string(signs[i])+string(check), "", api.ErrForm)
			for j := range 32 {
				body := string(signs[i]) + string(signs[j])
				switch {
				case body+string(check) != checked(body):
					answers(t, wire.FromLetters, body+string(check), "", api.ErrProof)
				case j%4 != 0:
					answers(t, wire.FromLetters, body+string(check), "", api.ErrForm)
				default:
					answers(t, wire.FromLetters, body+string(check), string([]byte{byte(i<<3 | j>>2)}), api.OK)
				}
			}
		}
	}
}

// The bits behind the last whole byte are zeros, however many there are.
func TestW4BitsBehind(t *testing.T) {
	for size := 1; size <= 64; size++ {
		s := plainSigns(repeated("\xa5", size))
		body, last := s[:len(s)-2], strings.IndexByte(signs, s[len(s)-2])
		for more := 1; more < 1<<((5*len(body)+5)%8); more++ {
			wrong := checked(body + string(signs[last|more]))
			answers(t, wire.FromLetters, wrong, "", api.ErrForm)
			check := signs[(strings.IndexByte(signs, wrong[len(wrong)-1])+1)%len(signs)]
			answers(t, wire.FromLetters, wrong[:len(wrong)-1]+string(check), "", api.ErrProof)
		}
	}
}

// misread: another reading is told, and as a wrong check unless a sign that is for checks alone stands ahead of the end.
func misread(t *testing.T, s string) {
	t.Helper()
	want := api.ErrProof
	if strings.ContainsAny(s[:len(s)-1], signs[32:]) {
		want = api.ErrForm
	}
	answers(t, wire.FromLetters, s, "", want)
}

func TestW4MisreadSigns(t *testing.T) {
	dice := rand.New(rand.NewPCG(4, 6))
	for size := range 65 {
		s := plainSigns(anyText(dice, size))
		for i := range len(s) {
			for _, sign := range signs {
				if byte(sign) != s[i] {
					misread(t, s[:i]+string(sign)+s[i+1:])
				}
			}
			if i > 0 && s[i-1] != s[i] {
				misread(t, s[:i-1]+s[i:i+1]+s[i-1:i]+s[i+1:])
			}
		}
	}
}
