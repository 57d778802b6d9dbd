package tests

import (
	"strconv"
	"strings"
	"testing"

	"loop.example/s02135/impl"
)

// listed is an answer of ParseTests in words, also one that may not be there.
func listed(tests []impl.Test, code, line int) string {
	if code != 0 {
		if len(tests) != 0 {
			return "tests beside code " + strconv.Itoa(code)
		}
		return "code " + strconv.Itoa(code) + " at " + strconv.Itoa(line)
	}
	if line != 0 {
		return "line " + strconv.Itoa(line) + " without a code"
	}
	var all strings.Builder
	for _, test := range tests {
		all.WriteString(show(test.In, 0) + " => " + show(test.Want, 0) + "\n")
	}
	return all.String()
}

func checkTests(t *testing.T, text, want string) {
	t.Helper()
	if got := listed(impl.ParseTests(text)); got != want {
		t.Errorf("ParseTests(%q): %q, want %q", short(text), short(got), short(want))
	}
}

func TestTextsOfTests(t *testing.T) {
	for _, text := range []string{
		"", ":1 => :2\n", "0: => 0:\n", "3:1 -2 3 => :-5\n", "2 2:1 2 3 4 => 2 0 3:\n:0 => :0\n", ":1 => :2\n:1 => :2\n", ":3000000000 => :-3000000000\n", "0 1000 1000: => 1000 0:\n",
	} {
		checkTests(t, text, text)
		// The last line with a byte 10 behind it and without.
		checkTests(t, strings.TrimSuffix(text, "\n"), text)
		checkTests(t, strings.ReplaceAll(text, "\n", "\n\n\n"), text)
		checkTests(t, "\n\n"+text, text)
	}
	for _, a := range pool() {
		text := show(a, 0) + " => " + show(a, 0) + "\n"
		checkTests(t, text, text)
	}
}

func TestLinesThatAreNone(t *testing.T) {
	for _, line := range []string{
		" ", "  ", "\t", "\r", "\x00", "=>", " =>", "=> ", " => ", "  =>  ", ":1", ":1 ", ":1 =>", ":1 => ", " => :1", "=> :1", ":1=> :2", ":1 =>:2", ":1=>:2", ":1 = > :2", ":1 -> :2", ":1 == :2", ":1  => :2", ":1 =>  :2", ":1\t=> :2", ":1 =>\t:2", " :1 => :2", ":1 => :2 ", ":1 => :2\r", ":1 => :2;", ":1 => :2 #", "#", "# :1 => :2",
		":1 => :2 => :3", ":1 => => :2", " => :1 => :2", ":1 => :2 => ", ":1 => :2 =>", ":1 => :2:3", ":1 :2", ":1 => 2", "1 => :2", ":1 => 1:", "1: => :1", ":1 => 2:1", "2:1 => :1", ":1 2 => :3", ":1 => :01", ":1 => :-0", ":+1 => :1", ":1 => :3000000001", "1 1 1 1:1 => :1", ":1 => 1001 0:",
	} {
		checkTests(t, line, "code 2 at 1")
		checkTests(t, line+"\n", "code 2 at 1")
		checkTests(t, "\n\n:1 => :2\n"+line+"\n:1 => :2", "code 2 at 4")
		checkTests(t, ":1 => :2\n\n"+line+"\n"+line, "code 2 at 3")
	}
}

func TestNoTextsOfArraysInTests(t *testing.T) {
	for _, bad := range badArrayTexts() {
		if strings.Contains(bad, "\n") {
			continue
		}
		for _, line := range []string{bad + " => :1", ":1 => " + bad, bad + " => " + bad} {
			if len(line) < impl.MaxTestText-20 {
				checkTests(t, line, "code 2 at 1")
				checkTests(t, ":1 => :1\n\n"+line+"\n", "code 2 at 3")
			}
		}
	}
}

// The greatest texts of arrays leave room for two tests in a text.
func TestTheGreatestTests(t *testing.T) {
	great := "1000 1 1:-3000000000" + strings.Repeat(" -3000000000", 999)
	line := great + " => " + great + "\n"
	checkTests(t, line+line, line+line)
	checkTests(t, line+line+line, "code 1 at 0")
}

func TestTextsOfTestsOfMostBytes(t *testing.T) {
	const line = ":1 => :2\n"
	lines := func(n int) string { return strings.Repeat("\n", n) }
	for _, c := range []struct{ text, want string }{
		{lines(impl.MaxTestText), ""},
		{lines(impl.MaxTestText-len(line)) + line, line},
		{line + lines(impl.MaxTestText-len(line)), line},
		{lines(impl.MaxTestText-1) + "x", "code 2 at 50000"},
		{strings.Repeat("x", impl.MaxTestText), "code 2 at 1"},
		{strings.Repeat("x\n", impl.MaxTestText/2), "code 2 at 1"},
		{strings.Repeat(line, impl.MaxTestText/len(line)), "code 3 at 21"},
		{strings.Repeat(line, 20) + lines(impl.MaxTestText-21*len(line)) + line, "code 3 at 49832"},
	} {
		if len(c.text) > impl.MaxTestText || len(c.text) < impl.MaxTestText-len(line) {
			t.Fatalf("the test's text has %d bytes", len(c.text))
		}
		checkTests(t, c.text, c.want)
		// One byte more, or many: code 1 comes ahead of the others.
		for _, more := range []string{"\n", "x", line, "\nx\n", c.text} {
			long := strings.Repeat("\n", impl.MaxTestText-len(c.text)) + c.text + more
			checkTests(t, long, "code 1 at 0")
		}
	}
}

func TestTheTestBehindTheFirst(t *testing.T) {
	const line, bad = ":1 => :2\n", "x\n"
	many := func(n int) string { return strings.Repeat(line, n) }
	for _, c := range []struct{ text, want string }{
		{many(19), many(19)}, {many(20), many(20)}, {many(20) + "\n\n", many(20)}, {"\n" + many(10) + "\n" + many(10), many(20)},
		{many(21), "code 3 at 21"}, {many(20) + ":1 => :2", "code 3 at 21"}, {many(22), "code 3 at 21"}, {many(20) + "\n\n" + line, "code 3 at 23"}, {"\n" + many(20) + "\n" + line + line, "code 3 at 23"}, {strings.ReplaceAll(many(21), "\n", "\n\n"), "code 3 at 41"},
		// Of codes 2 and 3 the one with the lesser line.
		{many(20) + bad, "code 2 at 21"}, {many(20) + "\n" + bad, "code 2 at 22"}, {many(20) + bad + line, "code 2 at 21"}, {many(20) + line + bad, "code 3 at 21"}, {many(20) + "\n" + line + "\n" + bad, "code 3 at 22"}, {many(20) + "\n" + bad + "\n" + line, "code 2 at 22"}, {bad + many(21), "code 2 at 1"}, {many(3) + bad + many(21), "code 2 at 4"}, {many(19) + bad + many(2), "code 2 at 20"}, {many(21) + bad + bad, "code 3 at 21"},
	} {
		checkTests(t, c.text, c.want)
	}
}

// numbered is a line with its number, counted from 1.
type numbered struct {
	line int
	text string
}

func modelLines(text string) []numbered {
	var list []numbered
	line, piece := 1, ""
	for i := 0; i <= len(text); i++ {
		if i < len(text) && text[i] != 10 {
			piece += text[i : i+1]
			continue
		}
		if piece != "" {
			list = append(list, numbered{line, piece})
		}
		line, piece = line+1, ""
	}
	return list
}

// isTestLine tries each place where a line can be cut.
func isTestLine(text string) bool {
	for at := 0; at+4 <= len(text); at++ {
		if text[at:at+4] == " => " && isArrayText(text[:at]) && isArrayText(text[at+4:]) {
			return true
		}
	}
	return false
}

// modelTests reads the document's words on ParseTests a second time: it looks
// for both codes in the whole text.
func modelTests(text string) string {
	if len(text) > impl.MaxTestText {
		return "code 1 at 0"
	}
	var bad, tests []numbered
	for _, n := range modelLines(text) {
		if isTestLine(n.text) {
			tests = append(tests, n)
		} else {
			bad = append(bad, n)
		}
	}
	over := len(tests) > impl.MaxTests
	if len(bad) > 0 && (!over || bad[0].line < tests[impl.MaxTests].line) {
		return "code 2 at " + strconv.Itoa(bad[0].line)
	}
	if over {
		return "code 3 at " + strconv.Itoa(tests[impl.MaxTests].line)
	}
	var all strings.Builder
	for _, test := range tests {
		all.WriteString(test.text + "\n")
	}
	return all.String()
}

// Each text at one edit from a right one.
func TestNearTextsOfTests(t *testing.T) {
	for _, right := range []string{":5 => :-6", "0: => 2 0 3:\n:1 => :2", "\n3:1 -2 30 => 1:7\n"} {
		for at := 0; at <= len(right); at++ {
			for _, edit := range strings.Split(" |:|-|=|>|0|1|9|a|\n|\r|\t|\x00|\xff|\n\n| => |=>|:1 => :2\n|", "|") {
				for cut := 0; cut <= 4 && at+cut <= len(right); cut++ {
					text := right[:at] + edit + right[at+cut:]
					checkTests(t, text, modelTests(text))
				}
			}
		}
	}
}

func lineByChance(d *dice) string {
	arrays := []string{":1", ":-7", "0:", "2:1 2", "2 2:1 2 3 4", "1 0 3:", ":3000000000"}
	switch d.throw(40) {
	case 0:
		return oneOf(d, badArrayTexts()[:30]) + " => " + oneOf(d, arrays)
	case 1:
		return oneOf(d, arrays) + oneOf(d, []string{" =>", "=> ", " = ", "", " => => "}) + oneOf(d, arrays)
	case 2, 3, 4, 5, 6:
		return ""
	}
	return oneOf(d, arrays) + " => " + oneOf(d, arrays)
}

func TestTextsOfTestsByChance(t *testing.T) {
	d := &dice{51}
	codes := map[string]int{}
	for range 6000 {
		list := make([]string, d.throw(36))
		for i := range list {
			list[i] = lineByChance(d)
		}
		text := strings.Join(list, "\n")
		want := modelTests(text)
		checkTests(t, text, want)
		codes[want[:min(6, len(want))]]++
	}
	if codes["code 2"] < 1000 || codes["code 3"] < 100 {
		t.Errorf("%v", codes)
	}
}
