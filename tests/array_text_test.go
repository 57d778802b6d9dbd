package tests

import (
	"math/big"
	"regexp"
	"strings"
	"testing"

	"loop.example/s02135/impl"
)

func TestArrayOk(t *testing.T) {
	for _, a := range pool() {
		if !impl.ArrayOk(a) {
			t.Errorf("%v is valid", a.Shape)
		}
	}
	for i, a := range badArrays() {
		if impl.ArrayOk(a) {
			t.Errorf("bad array %d is not valid", i)
		}
	}
}

func TestArrayTextIsAsWritten(t *testing.T) {
	for _, c := range []struct {
		a    impl.Array
		want string
	}{
		{scalarOf(5), ":5"},
		{scalarOf(0), ":0"},
		{scalarOf(-impl.MaxValue), ":-3000000000"},
		{scalarOf(impl.MaxValue), ":3000000000"},
		{vectorOf(), "0:"},
		{vectorOf(1, -2, 30), "3:1 -2 30"},
		{counted(1, 1, 2, 2), "2 2:1 2 3 4"},
		{counted(0, 0, 2, 0, 3), "2 0 3:"},
		{counted(0, 0, 0, 1000, 1000), "0 1000 1000:"},
		{counted(7, 0, 1000), "1000:" + strings.Repeat("7 ", 999) + "7"},
	} {
		if got, ok := impl.ArrayText(c.a); got != c.want || !ok {
			t.Errorf("%q, %v, not %q", short(got), ok, short(c.want))
		}
	}
	for i, a := range badArrays() {
		if got, ok := impl.ArrayText(a); got != "" || ok {
			t.Errorf("bad array %d: %q, %v", i, short(got), ok)
		}
	}
}

func TestParseArrayOfArrayText(t *testing.T) {
	for _, a := range append(pool(), counted(-impl.MaxValue, 0, 1000), counted(-impl.MaxValue, 0, 1000, 1, 1)) {
		text, ok := impl.ArrayText(a)
		if !ok {
			t.Fatalf("%v has no text", a.Shape)
		}
		if back, code := impl.ParseArray(text); code != 0 || !same(a, back) {
			t.Errorf("%q: code %d, %q", short(text), code, short(show(back, code)))
		}
	}
}

// badArrayTexts are no texts of arrays, each for another reason.
func badArrayTexts() []string {
	return []string{
		"", ":", "::", " ", ":-", ": 5", ":5 ", ":5:", "5", "1", "1 2 3", "1:", "2:1", "2:1 2 3", "0:1", "0:0", ":1 2", "0: ", " 0:",
		"-1:", "-0:", "00:", "01:1", "+1:1", "1:+1", "1:01", "1:-01", "1:-0", "1:--1", "1:0x1", "1:1_0", "1:1e0", "1:1.0", "1:\u0661", "a:1",
		"2:1  2", "2:1\t2", "2:1\n2", "2:1,2", "2  1:1 2", "2 1 :1 2", "2:1 2\n", "\n2:1 2", "2:1 2\x00", "2;1 2",
		":3000000001", ":-3000000001", ":9223372036854775808", ":18446744073709551621", ":99999999999999999999999999",
		"1 1 1 1:1", "0 0 0 0:", "1001 0:", "0 1001:", "1001:", "3000000000 0:", "18446744073709551616:",
		"1001:" + strings.Repeat("1 ", 1000) + "1",
		"2 501:" + strings.Repeat("1 ", 1001) + "1",
		"1000:" + strings.Repeat("1 ", 998) + "1",
		":" + strings.Repeat("0", 20000) + "5",
		"0:" + strings.Repeat(" ", 30000),
		strings.Repeat("1 ", 15000) + ":1",
	}
}

func TestParseArrayTakesOnlySuchTexts(t *testing.T) {
	for _, text := range badArrayTexts() {
		if a, code := impl.ParseArray(text); code != 1 || len(a.Shape) != 0 || len(a.Data) != 0 {
			t.Errorf("%q: %q", short(text), show(a, code))
		}
	}
}

var arrayForm = regexp.MustCompile(`\A((?:(?:0|[1-9][0-9]*)(?: (?:0|[1-9][0-9]*))*)?):((?:(?:0|-?[1-9][0-9]*)(?: (?:0|-?[1-9][0-9]*))*)?)\z`)

// isArrayText reads the document's words a second time, with numbers of any
// size.
func isArrayText(text string) bool {
	parts := arrayForm.FindStringSubmatch(text)
	if len(text) > 20000 || parts == nil {
		return false
	}
	lengths, cells := strings.Fields(parts[1]), strings.Fields(parts[2])
	product := big.NewInt(1)
	for _, word := range lengths {
		length, _ := new(big.Int).SetString(word, 10)
		if length.Cmp(big.NewInt(impl.MaxCells)) > 0 {
			return false
		}
		product.Mul(product, length)
	}
	for _, word := range cells {
		cell, _ := new(big.Int).SetString(word, 10)
		if cell.CmpAbs(big.NewInt(impl.MaxValue)) > 0 {
			return false
		}
	}
	return len(lengths) <= impl.MaxRank && len(cells) <= impl.MaxCells && product.Cmp(big.NewInt(int64(len(cells)))) == 0
}

// Each text at one edit from a right one is taken just when it is right too.
func TestParseArrayNearRightTexts(t *testing.T) {
	for _, right := range []string{":5", ":-3000000000", ":0", "0:", "3:1 -2 30", "2 2:1 2 3 4", "2 0 3:", "1 1 1:7", "1000 0:", "0 1000 1000:"} {
		for at := 0; at <= len(right); at++ {
			for _, edit := range strings.Split(" |:|-|+|0|1|2|9|a|_|.|\n|\t|\x00|\xff|10|-1| 1|0 |", "|") {
				checkReading(t, right[:at]+edit+right[at:])
				if at < len(right) {
					checkReading(t, right[:at]+edit+right[at+1:])
				}
			}
		}
	}
}

func checkReading(t *testing.T, text string) {
	t.Helper()
	a, code := impl.ParseArray(text)
	if !isArrayText(text) {
		if code != 1 || len(a.Shape) != 0 || len(a.Data) != 0 {
			t.Errorf("%q was taken: %q", text, show(a, code))
		}
		return
	}
	if back, ok := impl.ArrayText(a); code != 0 || !ok || back != text {
		t.Errorf("%q: code %d, %q", text, code, back)
	}
}
