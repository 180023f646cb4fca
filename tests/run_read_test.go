package tests

import (
	"strconv"
	"testing"

	"loop.example/tealang/impl"
)

// `read` of texts that are a number's, as trees write it, and of such that are not.
func TestRunRead(t *testing.T) {
	for _, s := range []string{"0", "7", "-5", "10", "999999999", "-999999999", "100000000"} {
		mustMean(t, nil, `read "`+s+`"`, "?"+s)
	}
	for _, s := range []string{
		"", "-", "+5", "05", "-05", "-0", "00", "+0", " 1", "1 ", " ", "1.0", "1.", ".1", "1e3", "0x1", "0b1", "0o7", "1_000", "1000000000", "-1000000000", "2147483648", "4294967296", "4294967297", "9223372036854775808", "18446744073709551617", "99999999999999999999",
		"yes", "no", "~", "?1", "[1]", "{}", "{a:1}", "[]", "1,2", "--1", "1-", "-1-", "a", "1a", "a1", "'1'", "old", "n", "num", "0-1", "- 1", "1 2", "Inf", "NaN",
	} {
		mustMean(t, nil, `read "`+s+`"`, "~")
	}
}

// All short texts of some bytes, held against what a number is.
func TestRunReadAll(t *testing.T) {
	numbers := 0
	for size := range 6 {
		for _, s := range allStrings("019- +", size) {
			answer := "~"
			if numForm.MatchString(s) {
				answer = "?" + s
				numbers++
			}
			if got := meaning(nil, node(impl.LiftRead, "", textNode(s))); got != answer {
				t.Errorf("%q: %s, not %s", s, got, answer)
			}
		}
	}
	if numbers < 100 {
		t.Errorf("%d numbers", numbers)
	}
}

// What `show` shows `read` reads.
func TestRunShowAndRead(t *testing.T) {
	step := 1
	for n := 0; n <= 999999999; n += step {
		for _, one := range []int{n, -n} {
			s := strconv.Itoa(one)
			mustMean(t, nil, "show "+s, `"`+s+`"`)
			mustMean(t, nil, "read show "+s, "?"+s)
		}
		step += step/2 + 1
	}
	mustMean(t, nil, "read show 999999999", "?999999999")
	mustMean(t, nil, "read join show 999999999 show 0", "~")
	mustMean(t, nil, `read join "-" show 5`, "?-5")
	mustMean(t, nil, `read join "-" show -5`, "~")
	mustMean(t, nil, `read join show 1 show 2`, "?12")
	mustMean(t, nil, `read join show 0 show 2`, "~")
}
