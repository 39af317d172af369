// Package words writes what returns and statements are told by: lines of words, and periods as words.
package words

import (
	"strconv"
	"strings"

	"octroi/api"
)

// Line tells words as a line, with a blank between each two.
func Line(l ...string) string { return strings.Join(l, " ") + "\n" }

// Period tells a period as a word, whether it is right or not.
func Period(p api.Period) string {
	return letter(p.Kind) + strconv.Itoa(p.Year) + "-" + strconv.Itoa(p.Index)
}

// letter tells a kind's letter: nothing, if the kind is none.
func letter(kind int) string {
	switch kind {
	case api.Month:
		return "M"
	case api.Quarter:
		return "Q"
	case api.Year:
		return "Y"
	}
	return ""
}
