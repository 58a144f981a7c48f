package nat

import (
	"math/big"
	"strings"
	"testing"

	"plumb/api"
	"plumb/digits"
)

func TestTextAndRead(t *testing.T) {
	l := append(samples(200, 40), greatest(), []int{0, 0, 0, 1})
	for _, v := range []int{9, 10, 999_999_999, 1_000_000_000, 1_000_000_001, 10_000_000_000, 999_999_999_999_999_999, 1_000_000_000_000_000_000} {
		l = append(l, digits.Of(v))
	}
	for _, n := range l {
		text, e := Text(n)
		if want := wide(n).String(); e != api.OK || text != want {
			t.Errorf("P212: Text(%v) = %.40q, %d, want %.40q", head(n), text, e, want)
		}
		back, e := Read(text)
		check(t, "P212: what Text tells, read", back, e, wide(n))
	}
}

func TestReadOtherTexts(t *testing.T) {
	for _, text := range []string{
		"", "00", "01", "007", "-0", "-1", "+1", " 1", "1 ", "1\n", "1_0", "1.", "1e3", "0x1", "a", "1a", "/", ":", "1/", ":1", "\x00", "1\x00", "\u0661", "\uff11", "\xff",
		"1\xff", strings.Repeat("9", 30) + "x", strings.Repeat("0", 20000), "0" + strings.Repeat("9", 20000), strings.Repeat("9", 20000) + "-",
	} {
		n, e := Read(text)
		refused(t, "P212: Read", n, e, api.ErrText)
	}
}

func TestReadTooLong(t *testing.T) {
	first := new(big.Int).Lsh(big.NewInt(1), maxBits)
	most := new(big.Int).Sub(first, big.NewInt(1))
	n, e := Read(most.String())
	check(t, "P212: the greatest number", n, e, most)
	for _, text := range []string{first.String(), new(big.Int).Add(first, first).String(), strings.Repeat("9", 18062), "1" + strings.Repeat("0", 18062), strings.Repeat("9", 1<<20)} {
		n, e := Read(text)
		refused(t, "P202, P212: a number that is too great", n, e, api.ErrLong)
	}
	n, e = Read("1" + strings.Repeat("0", 18061))
	check(t, "P212: 18062 decimal digits", n, e, new(big.Int).Exp(big.NewInt(10), big.NewInt(18061), nil))
}
