package words_test

import (
	"fmt"
	"math"
	"testing"

	"octroi/api"
	"octroi/words"
)

// P35.3, P36.3: lines of words, with a blank between each two.
func TestLine(t *testing.T) {
	for _, c := range []struct {
		l    []string
		want string
	}{
		{nil, "\n"}, {[]string{""}, "\n"}, {[]string{"out"}, "out\n"}, {[]string{"out", "190"}, "out 190\n"}, {[]string{"FR", "2000", "1000", "200"}, "FR 2000 1000 200\n"},
		{[]string{"fix", "", "-5"}, "fix  -5\n"}, {[]string{" ", "\n", "\xff"}, "  \n \xff\n"},
	} {
		if got := words.Line(c.l...); got != c.want {
			t.Errorf("%q: %q", c.l, got)
		}
	}
}

// P35.3: a period's word has its Kind's letter, Year, a line and Index.
func TestPeriod(t *testing.T) {
	numbers := []int{0, 1, -1, 4, 12, 1970, 2022, 9999, math.MaxInt, math.MinInt}
	for kind, letter := range map[int]string{api.Month: "M", api.Quarter: "Q", api.Year: "Y", 0: "", 4: "", -1: "", 77: "", math.MaxInt: "", math.MinInt: ""} {
		for _, year := range numbers {
			for _, index := range numbers {
				want := fmt.Sprintf("%s%d-%d", letter, year, index)
				if got := words.Period(api.Period{Kind: kind, Year: year, Index: index}); got != want {
					t.Errorf("%q, not %q", got, want)
				}
			}
		}
	}
}
