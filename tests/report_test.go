package tests

import (
	"regexp"
	"slices"
	"strconv"
	"strings"
	"testing"

	"loop.example/s02135/impl"
)

func pass() impl.Verdict { return impl.Verdict{Kind: impl.Pass} }

func wrong(code int) impl.Verdict { return impl.Verdict{Kind: impl.Error, Code: code} }

// passes has so many verdicts.
func passes(n int) []impl.Verdict { return slices.Repeat([]impl.Verdict{pass()}, n) }

// checkReport asks for a text, and that it reads as what was reported.
func checkReport(t *testing.T, id string, vs []impl.Verdict, want string) {
	t.Helper()
	text, ok := impl.Report(id, vs)
	if text != want || !ok {
		t.Errorf("Report(%q, %v): %q %v, want %q", id, vs, text, ok, want)
	}
	back, list, ok := impl.ReadReport(want)
	if back != id || !slices.Equal(list, vs) || !ok {
		t.Errorf("ReadReport(%q): %q %v %v", want, back, list, ok)
	}
}

func checkNoReport(t *testing.T, id string, vs []impl.Verdict) {
	t.Helper()
	if text, ok := impl.Report(id, vs); text != "" || ok {
		t.Errorf("Report(%q, %v): %q %v", short(id), vs, text, ok)
	}
}

func checkUnread(t *testing.T, text string) {
	t.Helper()
	if id, vs, ok := impl.ReadReport(text); id != "" || len(vs) != 0 || ok {
		t.Errorf("ReadReport(%q): %q %v %v", short(text), id, vs, ok)
	}
}

func TestReports(t *testing.T) {
	checkReport(t, "ann7", nil, "student ann7\npassed 0 of 0\n")
	checkReport(t, "ann7", []impl.Verdict{{Kind: 1}, {Kind: 2}, {Kind: 3, Code: 23}, {Kind: 4}, {Kind: 5}, {Kind: 1}}, "student ann7\ntest 1 pass\ntest 2 fail\ntest 3 error 23\ntest 4 fuel\ntest 5 cells\ntest 6 pass\npassed 2 of 6\n")
	for kind, word := range []string{1: "pass", 2: "fail", 4: "fuel", 5: "cells"} {
		if word == "" {
			continue
		}
		passed := "0"
		if kind == 1 {
			passed = "1"
		}
		checkReport(t, "x", []impl.Verdict{{Kind: kind}}, "student x\ntest 1 "+word+"\npassed "+passed+" of 1\n")
	}
	for code := 1; code <= 99; code++ {
		checkReport(t, "x", []impl.Verdict{wrong(code)}, "student x\ntest 1 error "+strconv.Itoa(code)+"\npassed 0 of 1\n")
	}
	for n := range impl.MaxTests + 1 {
		var lines strings.Builder
		for i := 1; i <= n; i++ {
			lines.WriteString("test " + strconv.Itoa(i) + " pass\n")
		}
		count := strconv.Itoa(n)
		checkReport(t, "Bob", passes(n), "student Bob\n"+lines.String()+"passed "+count+" of "+count+"\n")
	}
}

func TestIds(t *testing.T) {
	const most = "abcdefghij0123456789"
	for _, id := range []string{"a", "z", "A", "Z", "0", "9", "007", "pass", "student", "test", "Ann", "aB3", most, most[1:]} {
		checkReport(t, id, passes(1), "student "+id+"\ntest 1 pass\npassed 1 of 1\n")
	}
	for _, id := range []string{"", " ", "a b", " a", "a ", "a\n", "\na", "a\nb", "a_", "_a", "a-b", "a.b", "a/b", "a\x00", "\x00", "\u00e9", "\u00e9a", "a\u0661", "\uff21", "a\xff", "@", "[", "`", "{", "/", ":", most + "a", most + "\n", strings.Repeat("a", 21), strings.Repeat("a", 1000000)} {
		checkNoReport(t, id, nil)
		checkNoReport(t, id, passes(1))
		checkUnread(t, "student "+id+"\npassed 0 of 0\n")
		checkNoLog(t, id, nil)
		checkNoLog(t, id, []impl.Outcome{{Kind: impl.DidFuel}})
	}
	for b := range 256 {
		letterOrDigit := strings.IndexByte("0123456789abcdefghijklmnopqrstuvwxyzABCDEFGHIJKLMNOPQRSTUVWXYZ", byte(b)) >= 0
		for _, id := range []string{string([]byte{byte(b)}), string([]byte{'a', byte(b), 'c'}), string([]byte{'a', 'b', byte(b)})} {
			if letterOrDigit {
				checkReport(t, id, nil, "student "+id+"\npassed 0 of 0\n")
				checkLog(t, id, []impl.Outcome{{Kind: impl.DidFuel}}, id+" 1 3 0 0 0 -\n")
			} else {
				checkNoReport(t, id, nil)
				checkUnread(t, "student "+id+"\npassed 0 of 0\n")
				checkNoLog(t, id, nil)
			}
		}
	}
}

func TestVerdictsThatAreNotRight(t *testing.T) {
	const great = 1 << 62
	for _, bad := range []impl.Verdict{
		{}, {Kind: -1}, {Kind: 6}, {Kind: 7}, {Kind: great}, {Kind: -great}, {Kind: 0, Code: 1}, {Kind: 6, Code: 1}, {Kind: 20}, {Kind: 20, Code: 21},
		{Kind: 3}, {Kind: 3, Code: -1}, {Kind: 3, Code: 100}, {Kind: 3, Code: 101}, {Kind: 3, Code: great}, {Kind: 3, Code: -great},
		{Kind: 1, Code: 1}, {Kind: 1, Code: -1}, {Kind: 2, Code: 1}, {Kind: 2, Code: 99}, {Kind: 4, Code: 1}, {Kind: 5, Code: 1}, {Kind: 4, Code: -5}, {Kind: 5, Code: great},
	} {
		checkNoReport(t, "x", []impl.Verdict{bad})
		for _, at := range []int{0, 7, impl.MaxTests - 1} {
			vs := passes(impl.MaxTests)
			vs[at] = bad
			checkNoReport(t, "x", vs)
		}
	}
	for _, n := range []int{impl.MaxTests + 1, impl.MaxTests + 2, 1000} {
		checkNoReport(t, "x", passes(n))
		checkNoReport(t, "x", slices.Repeat([]impl.Verdict{wrong(5)}, n))
	}
}

// Texts that only look like reports.
func TestTextsThatAreNoReports(t *testing.T) {
	for _, text := range []string{
		"", "\n", "\n\n", "\n\n\n", "student", "student x", "student x\n", "student x\n\n", "student x\npassed 0 of 0", "student x\npassed 0 of 0\n\n", "\nstudent x\npassed 0 of 0\n", "student x\n\npassed 0 of 0\n", "student x\npassed 0 of 0\n ", "student x\npassed 0 of 0\nstudent x\npassed 0 of 0\n", "student x\r\npassed 0 of 0\r\n", "passed 0 of 0\n", "x\npassed 0 of 0\n", "student student x\npassed 0 of 0\n", "studentx\npassed 0 of 0\n", "student  x\npassed 0 of 0\n", " student x\npassed 0 of 0\n", "student x \npassed 0 of 0\n", "STUDENT x\npassed 0 of 0\n", "teacher x\npassed 0 of 0\n", "\xef\xbb\xbfstudent x\npassed 0 of 0\n",
		"student x\npassed 1 of 0\n", "student x\npassed 0 of 1\n", "student x\npassed 1 of 1\n", "student x\npassed 00 of 0\n", "student x\npassed 0 of 00\n", "student x\npassed -0 of 0\n", "student x\npassed +0 of 0\n", "student x\npassed 0 of -0\n", "student x\npassed 0  of 0\n", "student x\npassed 0 off 0\n", "student x\nPassed 0 of 0\n", "student x\npassed of 0\n", "student x\npassed 0 of \n", "student x\npassed 0 of 0 \n", "student x\npassed \u0660 of 0\n", "student x\npassed 0/0\n",
		"student x\ntest 1 pass\n", "student x\ntest 1 pass\npassed 0 of 1\n", "student x\ntest 1 pass\npassed 1 of 0\n", "student x\ntest 1 pass\npassed 1 of 2\n", "student x\ntest 1 pass\npassed 2 of 1\n", "student x\ntest 1 pass\npassed 0 of 0\n", "student x\ntest 1 fail\npassed 1 of 1\n", "student x\ntest 1 pass\npassed 01 of 1\n", "student x\ntest 1 pass\npassed 1 of 01\n", "student x\npassed 1 of 1\ntest 1 pass\n", "test 1 pass\nstudent x\npassed 1 of 1\n", "student x\ntest 1 pass\ntest 1 pass\npassed 2 of 2\n", "student x\ntest 2 pass\ntest 1 pass\npassed 2 of 2\n", "student x\ntest 1 pass\ntest 3 pass\npassed 2 of 2\n", "student x\ntest 1 pass\n\ntest 2 pass\npassed 2 of 2\n", "student x\ntest 1 pass\n\npassed 1 of 1\n", "student x\ntest 1 pass\ntest 2 pass\npassed 1 of 1\n",
		"student x\ntest 0 pass\npassed 1 of 1\n", "student x\ntest 2 pass\npassed 1 of 1\n", "student x\ntest 01 pass\npassed 1 of 1\n", "student x\ntest +1 pass\npassed 1 of 1\n", "student x\ntest -1 pass\npassed 1 of 1\n", "student x\ntest one pass\npassed 1 of 1\n", "student x\ntest pass\npassed 1 of 1\n", "student x\ntest 1\npassed 0 of 1\n", "student x\ntest 1 \npassed 0 of 1\n", "student x\ntest  1 pass\npassed 1 of 1\n", "student x\ntest 1  pass\npassed 1 of 1\n", "student x\ntest 1 pass \npassed 1 of 1\n", "student x\n test 1 pass\npassed 1 of 1\n", "student x\nTest 1 pass\npassed 1 of 1\n", "student x\nexam 1 pass\npassed 1 of 1\n", "student x\ntest 1 Pass\npassed 1 of 1\n", "student x\ntest 1 passed\npassed 1 of 1\n", "student x\ntest 1 pas\npassed 1 of 1\n", "student x\ntest 1 1\npassed 1 of 1\n", "student x\ntest 1 pass 0\npassed 1 of 1\n", "student x\ntest 1 pass 1\npassed 1 of 1\n", "student x\ntest 1 pass pass\npassed 1 of 1\n", "student x\ntest 1 fuel 4\npassed 0 of 1\n", "student x\ntest 1 cell\npassed 0 of 1\n",
		"student x\ntest 1 error\npassed 0 of 1\n", "student x\ntest 1 error \npassed 0 of 1\n", "student x\ntest 1 error 0\npassed 0 of 1\n", "student x\ntest 1 error 00\npassed 0 of 1\n", "student x\ntest 1 error 05\npassed 0 of 1\n", "student x\ntest 1 error +5\npassed 0 of 1\n", "student x\ntest 1 error -5\npassed 0 of 1\n", "student x\ntest 1 error 100\npassed 0 of 1\n", "student x\ntest 1 error 5 \npassed 0 of 1\n", "student x\ntest 1 error 5 5\npassed 0 of 1\n", "student x\ntest 1 error  5\npassed 0 of 1\n", "student x\ntest 1 error 5.0\npassed 0 of 1\n", "student x\ntest 1 error 0x5\npassed 0 of 1\n", "student x\ntest 1 error five\npassed 0 of 1\n", "student x\ntest 1 error5\npassed 0 of 1\n", "student x\ntest 1 error 18446744073709551621\npassed 0 of 1\n", "student x\ntest 1 error \u0665\npassed 0 of 1\n",
	} {
		checkUnread(t, text)
	}
	checkUnread(t, strings.Repeat("\n", 1000000))
	checkUnread(t, strings.Repeat(" ", 1000000))
	checkUnread(t, "student x\n"+strings.Repeat("test 1 pass\n", 1000000)+"passed 0 of 0\n")
}

// A report of more than MaxTests verdicts is none.
func TestReportsThatAreTooLong(t *testing.T) {
	for _, n := range []int{impl.MaxTests, impl.MaxTests + 1, impl.MaxTests + 2, 100} {
		var text strings.Builder
		text.WriteString("student x\n")
		for i := 1; i <= n; i++ {
			text.WriteString("test " + strconv.Itoa(i) + " pass\n")
		}
		text.WriteString("passed " + strconv.Itoa(n) + " of " + strconv.Itoa(n) + "\n")
		if n == impl.MaxTests {
			checkReport(t, "x", passes(n), text.String())
		} else {
			checkUnread(t, text.String())
		}
	}
}

var reportForm = regexp.MustCompile(`\Astudent ([A-Za-z0-9]{1,20})\n((?:test [0-9]{1,9} (?:pass|fail|error [0-9]{1,9}|fuel|cells)\n)*)passed (0|[1-9][0-9]?) of (0|[1-9][0-9]?)\n\z`)
var verdictForm = regexp.MustCompile(`test (\S+) (\S+)(?: (\S+))?\n`)

// modelReport reads the document's words on reports a second time, from the
// side of the text.
func modelReport(text string) (string, []impl.Verdict, bool) {
	parts := reportForm.FindStringSubmatch(text)
	if parts == nil {
		return "", nil, false
	}
	var vs []impl.Verdict
	passed := 0
	for i, line := range verdictForm.FindAllStringSubmatch(parts[2], -1) {
		kind := 1 + slices.Index([]string{"pass", "fail", "error", "fuel", "cells"}, line[2])
		code, _ := strconv.Atoi(line[3])
		if line[1] != strconv.Itoa(i+1) || kind == 3 && (code < 1 || code > 99 || line[3][0] == '0') {
			return "", nil, false
		}
		if kind == 1 {
			passed++
		}
		vs = append(vs, impl.Verdict{Kind: kind, Code: code})
	}
	if len(vs) > 20 || parts[3] != strconv.Itoa(passed) || parts[4] != strconv.Itoa(len(vs)) {
		return "", nil, false
	}
	return parts[1], vs, true
}

// checkReadReport asks whether a text is taken just when it is a report.
func checkReadReport(t *testing.T, text string) bool {
	t.Helper()
	id, vs, ok := impl.ReadReport(text)
	wantId, want, wantOk := modelReport(text)
	if id != wantId || !slices.Equal(vs, want) || ok != wantOk {
		t.Errorf("ReadReport(%q): %q %v %v, want %q %v %v", text, id, vs, ok, wantId, want, wantOk)
	}
	if back, reported := impl.Report(id, vs); ok && (back != text || !reported) {
		t.Errorf("Report of ReadReport of %q: %q", text, back)
	}
	return ok
}

// Each text at one edit from a report.
func TestTextsNearReports(t *testing.T) {
	taken := 0
	for _, right := range []string{
		"student x\npassed 0 of 0\n", "student ann7\ntest 1 pass\npassed 1 of 1\n", "student x\ntest 1 fail\ntest 2 error 9\ntest 3 error 10\npassed 0 of 3\n", "student 1\ntest 1 fuel\ntest 2 cells\ntest 3 pass\npassed 1 of 3\n",
	} {
		edits := strings.Split(" |\n|\r|\t|\x00|\xff|-|+|0|1|2|9|a|A|_|:|pass|fail|error|fuel|cells|test|student |passed|test 1 pass\n|error 5|", "|")
		for at := 0; at <= len(right); at++ {
			for _, edit := range edits {
				for cut := 0; cut <= 6 && at+cut <= len(right); cut++ {
					if checkReadReport(t, right[:at]+edit+right[at+cut:]) {
						taken++
					}
				}
			}
		}
	}
	if taken < 100 {
		t.Errorf("%d texts were reports", taken)
	}
}

// Lines of a report left out, doubled and in another order.
func TestLinesOfReportsInOtherOrders(t *testing.T) {
	lines := []string{"student x\n", "test 1 pass\n", "test 2 fail\n", "test 1 error 7\n", "passed 1 of 2\n", "passed 1 of 1\n", "passed 0 of 1\n", "passed 0 of 0\n"}
	taken := 0
	for length := 0; length <= 5; length++ {
		allTexts(lines, length, func(text string) {
			if checkReadReport(t, strings.ReplaceAll(text, "\n ", "\n")) {
				taken++
			}
		})
	}
	if taken != 4 {
		t.Errorf("%d texts were reports", taken)
	}
}
