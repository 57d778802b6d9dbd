package tests

import (
	"strings"
	"testing"

	"loop.example/s02135/impl"
)

// parsed asks for a code and an offset, and that nothing stands beside a code.
func parsed(t *testing.T, text string, code, at int) []impl.Stmt {
	t.Helper()
	p, gotCode, gotAt := impl.Parse(text)
	if gotCode != code || gotAt != at {
		t.Errorf("Parse(%q): code %d at %d, want %d at %d", short(text), gotCode, gotAt, code, at)
	}
	if gotCode != 0 && len(p) != 0 {
		t.Errorf("Parse(%q): statements beside code %d", short(text), gotCode)
	}
	return p
}

func codeOf(t *testing.T, text string, code int) {
	t.Helper()
	parsed(t, text, code, 0)
}

func inBrackets(n int, text string) string {
	return strings.Repeat("(", n) + text + strings.Repeat(")", n)
}

func TestEachByteAlone(t *testing.T) {
	for b := 0; b < 256; b++ {
		text := string([]byte{byte(b)})
		code := 2
		switch {
		case strings.Contains(" \t\r\n#;0123456789abcdefghijklmnopqrstuvwxyz", text):
			code = 0
		case strings.Contains("ABCDEFGHIJKLMNOPQRSTUVWXYZ+-*%|<=>~(){}:/\\@.", text):
			code = 3
		}
		codeOf(t, text, code)
		if code == 2 {
			parsed(t, "w "+text+" w", 2, 2)
			parsed(t, "w # "+text+"\n1", 0, 0)
		}
	}
}

func TestTextsWithoutAToken(t *testing.T) {
	for _, text := range []string{"", " ", "\t\r ", "#", "# $ ( 1a", "#a\n#b", "##\n\n", ";", "\n", ";;\n;", " ; # $\n ;", "\r\n\r\n"} {
		if p := parsed(t, text, 0, 0); len(p) != 0 {
			t.Errorf("Parse(%q): %v", text, p)
		}
	}
}

func TestNumbers(t *testing.T) {
	for _, c := range []struct {
		text   string
		number int
	}{
		{"0", 0}, {"_0", 0}, {"7", 7}, {"_7", -7}, {"007", 7}, {"_0000000001", -1}, {"0000000000", 0}, {"3000000000", impl.MaxValue}, {"_3000000000", -impl.MaxValue}, {"2999999999", impl.MaxValue - 1}, {"_2999999999", 1 - impl.MaxValue},
	} {
		p := parsed(t, c.text, 0, 0)
		if len(p) != 1 || len(p[0].Code) != 1 || len(p[0].Code[0].Nums) != 1 || p[0].Code[0].Nums[0] != c.number {
			t.Errorf("Parse(%q): %v", c.text, p)
		}
	}
	for _, stretch := range []string{
		"3000000001", "_3000000001", "9999999999", "_9999999999", "00000000000", "_00000000001", "12345678901", "99999999999999999999", "1a", "1A", "0x1", "_", "_a", "_A1", "_1a", "1e3", "_1_", "1z1",
	} {
		at := 0
		if stretch == "_1_" {
			at = 2
		}
		parsed(t, stretch, 2, at)
		parsed(t, "w := w +"+stretch+";", 2, 8+at)
	}
	parsed(t, "__1", 2, 0)
	parsed(t, "1__1", 2, 1)
	parsed(t, "w_", 2, 1)
}

// A `_` begins a new stretch wherever it stands.
func TestStretchesThatTouch(t *testing.T) {
	for text, want := range map[string]string{"1_2": "1 _2\n", "_1_2_3": "_1 _2 _3\n", "2+_1": "2 + _1\n", "(w)-_1": "w - _1\n", "1-1": "1 - 1\n", "w-1": "w - 1\n", "1#2\n": "1\n"} {
		p := parsed(t, text, 0, 0)
		if got, ok := impl.Print(p); got != want || !ok {
			t.Errorf("Print of %q: %q", text, got)
		}
	}
	codeOf(t, "w_1", 3)
	codeOf(t, "F_1", 0)
	codeOf(t, "max_1", 3)
	codeOf(t, "abs_1", 0)
}

func TestWords(t *testing.T) {
	letters := "abcdefghijklmnopqrst"
	for _, word := range []string{"a", "w", "z9", "aB", letters, "a1234567890123456789", "maxi", "ma", "max1", "selfish", "sel", "takeX", "mAX", "iota1"} {
		codeOf(t, word, 0)
		codeOf(t, word+" := 1", 0)
		codeOf(t, word+" := {w}", 3)
		codeOf(t, word+" w", 3)
	}
	for _, word := range []string{"F", "Z", "Fold", "F1", "MAX", "Self", "Take", "A" + letters[1:]} {
		codeOf(t, word, 3)
		codeOf(t, word+" w", 0)
		codeOf(t, "w "+word+" w", 0)
		codeOf(t, word+" := {w}", 0)
		codeOf(t, word+" := w", 3)
	}
	for _, word := range []string{letters + "u", "A" + letters, letters + "1", strings.Repeat("x", 3000)} {
		parsed(t, word, 2, 0)
		parsed(t, "w := w + "+word, 2, 9)
		parsed(t, word+" := {w}", 2, 0)
		parsed(t, "F := {w : "+word+"; w}", 2, 10)
	}
	for _, word := range strings.Fields("max min abs sign iota rho cat rev flip grade count take drop from match roll self") {
		codeOf(t, word, 3)
		codeOf(t, word+" := 1", 3)
		codeOf(t, word+" := {w}", 3)
		codeOf(t, "F := {w} ; w + "+word, 3)
		codeOf(t, "("+word+")", 3)
	}
	codeOf(t, "self w", 0)
	codeOf(t, "w self w", 0)
	codeOf(t, "w self self w", 0)
}

// All of the table, in both places, and all that it does not have.
func TestTheTableOfFunctions(t *testing.T) {
	w := impl.Step{Kind: impl.StepName, Name: "w"}
	ask := func(text string, fn impl.Fn, steps ...impl.Step) {
		t.Helper()
		if fn.Kind == 0 {
			codeOf(t, text, 3)
			return
		}
		steps[len(steps)-1].Fn = fn
		p := parsed(t, text, 0, 0)
		if want := []impl.Stmt{{Kind: impl.StmtValue, Code: steps}}; !samePrograms(p, want) {
			t.Errorf("Parse(%q): %v, want %v", text, p, want)
		}
	}
	front := func(text string, fn impl.Fn) {
		t.Helper()
		ask(text+" w", fn, w, impl.Step{Kind: impl.StepOne})
	}
	middle := func(text string, fn impl.Fn) {
		t.Helper()
		ask("w "+text+" w", fn, w, w, impl.Step{Kind: impl.StepTwo})
	}
	for _, row := range tableRows() {
		front(row.text, row.one)
		middle(row.text, row.two)
		middle(row.text+"/", impl.Fn{})
		middle(row.text+" \\", impl.Fn{})
		front("@"+row.text, impl.Fn{})
		front(row.text+".+", impl.Fn{})
		if row.two.Kind != impl.FnEach2 {
			front(row.text+"/", impl.Fn{})
			front(row.text+"\\", impl.Fn{})
			middle("@"+row.text, impl.Fn{})
			middle(row.text+".+", impl.Fn{})
			middle("+."+row.text, impl.Fn{})
			continue
		}
		front(row.text+"/", impl.Fn{Kind: impl.FnReduce, A: row.two.A})
		front(row.text+" \\", impl.Fn{Kind: impl.FnScan, A: row.two.A})
		middle("@ "+row.text, impl.Fn{Kind: impl.FnOuter, A: row.two.A})
		middle(row.text+" . *", impl.Fn{Kind: impl.FnInner, A: row.two.A, B: impl.OpMul})
		middle("max."+row.text, impl.Fn{Kind: impl.FnInner, A: impl.OpMax, B: row.two.A})
	}
	for _, name := range []string{"F", "Go2", "self"} {
		front(name, impl.Fn{Kind: impl.FnCall, Name: name})
		middle(name, impl.Fn{Kind: impl.FnCall, Name: name})
		for _, no := range []string{name + "/", name + "\\", "@" + name, name + ".+", "+." + name} {
			front(no, impl.Fn{})
			middle(no, impl.Fn{})
		}
	}
	for _, no := range []string{"/", "\\", ".", "@", "+.", ".+", "@/", "+/.+", "@+/", "+..+", "+./", "+//", "@@+", "+\\/"} {
		front(no, impl.Fn{})
		middle(no, impl.Fn{})
	}
}

func TestTextsWithTheForm(t *testing.T) {
	for _, text := range []string{
		"w", "1 2 3", "((1))", "- - w", "w - - w", "w - +/ w", "w +.* - w", "w @+ max\\ w", "(w) + (w)", "(- w) - w", "1 2 + 3 4", "F F w", "w F F w", "w F - w",
		"w;w", "w\nw", ";w;;w;", "\n\nw\n;\nw\n", "x:=1;x", "x := 1\ny := x", "w := w", "F:={w};F 1", "F := {;w}", "F := {\n\nw\n;\n}", "F := {w;}", "F := {a:w;w}", "F := {a : w;; ; b : w\n\n w ;}", "F := {(w) : (w)\nw}", "F := {self w}", "F := {w} ; F := {a}",
		"w # a\nw # b", "w # ) $ \n", "w# \n w", "#\nw",
	} {
		codeOf(t, text, 0)
	}
}

func TestTextsWithoutTheForm(t *testing.T) {
	for _, text := range []string{
		"w w", "1 w", "w 1", "1 (2)", "(1) 2", "(1)(2)", "w (w)", "(w) w", "w +", "+", "+ w", "w + + w", "w ~ w", "- ", "w - ", "w -\nw", "w\n+ w", "( w\n)", "(\nw)", "(w;)", "(", ")", "()", "(w", "w)", "((w)", "(w))", ")w(", "(w :)", "(x := 1)", "{w}", "w {w}", "{", "}", "w }", "(w}",
		":", "w :", ": w", "w : w", "w : w; w", ":=", "x :=", ":= 1", "x := y := 1", "x := := 1", "x y := 1", "1 := 1", "(x) := 1", "x : = 1", "x =: 1", "x := 1 2 x", "+ := 1", "; := 1", "x :=\n1", "x\n:= 1", "F :=", "F := w", "F := (w)", "F := {w", "F := w}", "F := {w}}", "F := {{w}}", "F := {w} {w}", "F := {w} w", "F := {w} F 1", "F :=\n{w}", "F\n:= {w}", "x := {w}", "w F := {w}", "self := {w}", "self := w",
		"F := {}", "F := {;}", "F := {\n}", "F := {w : w}", "F := {w : w;}", "F := {w : w;;}", "F := {: w; w}", "F := {w : ; w}", "F := {w :; w}", "F := {w;\nw}", "F := {w; w : w; w}", "F := {w : w w}", "F := {w : w : w; w}", "F := {w : (w; w}", "F := {x := 1; w}", "F := {G := {w}; w}", "F := {w := w}", "F := {w : \n w; w}", "F := {w\n: w; w}", "F := {(w : w); w}",
		"w # a\n+ w", "w + # w",
	} {
		codeOf(t, text, 3)
	}
}

func TestTextsOfMostBytes(t *testing.T) {
	const most = impl.MaxText
	for _, text := range []string{"w + w", "x := 1;", "F := {w}", "# w"} {
		blank := strings.Repeat(" ", most-len(text))
		codeOf(t, text+blank, 0)
		codeOf(t, blank+text, 0)
		codeOf(t, text+blank+" ", 1)
		codeOf(t, " "+blank+text, 1)
	}
	codeOf(t, strings.Repeat("#", most), 0)
	codeOf(t, strings.Repeat("#", most+1), 1)
	codeOf(t, strings.Repeat(";", most), 0)
	codeOf(t, strings.Repeat("-", most-1)+"w", 0)
	codeOf(t, strings.Repeat("-", most)+"w", 1)
	codeOf(t, strings.Repeat("w;", most/2), 0)
	codeOf(t, strings.Repeat("w-", most/2-1)+"w ", 0)
	codeOf(t, strings.Repeat("(", most), 3)
	codeOf(t, strings.Repeat("F", most), 2)
	parsed(t, strings.Repeat("w ", most/2-1)+"w$", 2, most-1)
	codeOf(t, strings.Repeat("w ", 1000000), 1)
}

func TestNestedBrackets(t *testing.T) {
	const most = impl.MaxNest
	for _, form := range [][2]string{{"", ""}, {"x := ", ""}, {"F := {", "}"}, {"F := {", " : w; w}"}, {"F := {w : ", "; w}"}, {"w;", ";w"}, {"- ", ""}, {"w - ", ""}, {"", " - w"}, {"(w) - ", " + (w)"}} {
		codeOf(t, form[0]+inBrackets(most, "w")+form[1], 0)
		codeOf(t, form[0]+inBrackets(most+1, "w")+form[1], 4)
		codeOf(t, form[0]+inBrackets(700, "w")+form[1], 4)
	}
	codeOf(t, strings.Repeat("(w - ", most)+"w"+strings.Repeat(")", most), 0)
	codeOf(t, strings.Repeat("(w - ", most+1)+"w"+strings.Repeat(")", most+1), 4)
	codeOf(t, inBrackets(most-1, "(w) - (w) - (w)"), 0)
	codeOf(t, inBrackets(most-1, "(w) - ((w)) - (w)"), 4)
	codeOf(t, strings.Repeat("(w) - ", 100)+"w", 0)
	codeOf(t, "F := {"+inBrackets(most, "w")+":"+inBrackets(most, "1")+";"+inBrackets(most, "w")+"};"+inBrackets(most, "w"), 0)
}

func TestNumbersOfAnOperand(t *testing.T) {
	const most = impl.MaxCells
	for _, form := range [][2]string{{"", ""}, {"x := ", ""}, {"F := {", "}"}, {"F := {", ": w; w}"}, {"F := {w : ", "; w}"}, {"- ", ""}, {"w - ", ""}, {"", "- w"}, {"(", ")"}} {
		codeOf(t, form[0]+strings.Repeat("1 ", most)+form[1], 0)
		codeOf(t, form[0]+strings.Repeat("_1", most)+form[1], 0)
		codeOf(t, form[0]+strings.Repeat("1 ", most+1)+form[1], 4)
		codeOf(t, form[0]+strings.Repeat("_1", most+1)+form[1], 4)
	}
	codeOf(t, strings.Repeat("1 ", most)+"-"+strings.Repeat("1 ", most-1), 0)
	codeOf(t, strings.Repeat("1 ", most)+";"+strings.Repeat("1 ", most-1), 0)
	codeOf(t, strings.Repeat("1;", 2*most), 0)
	p := parsed(t, strings.Repeat("1 ", most), 0, 0)
	if len(p) != 1 || len(p[0].Code) != 1 || len(p[0].Code[0].Nums) != most {
		t.Errorf("%d numbers are lost", most)
	}
}

func TestTheFirstCodeThatApplies(t *testing.T) {
	many := strings.Repeat("1 ", impl.MaxCells+1)
	deep := inBrackets(impl.MaxNest+1, "w")
	filler := strings.Repeat(" ", impl.MaxText)
	for _, text := range []string{"$", "w w", many, deep, "$ w w" + deep, "w"} {
		codeOf(t, text+filler, 1)
		codeOf(t, filler+text, 1)
	}
	for _, text := range []string{"$", "w w $", "( $", ") $", "w + $", many + "$", deep + "$", "w w" + deep + "$", "F := { $", "x := $", ": $"} {
		parsed(t, text, 2, strings.Index(text, "$"))
	}
	for text, at := range map[string]int{"w w 1a": 4, "$ $": 0, "w $ 1a": 2, "w 1a $": 2, "1 3000000001 $ )": 2, "# $\n $": 5, "w\n\n$": 3, "w \xff $": 2, "é": 0, "wé": 1, "\"w\"": 0, "w 'a'": 2, "1,2": 1, "w ! w": 2, "w^w": 1, "[w]": 0, "w\x00": 1, "w\vw": 1, "w\fw": 1} {
		parsed(t, text, 2, at)
	}
	for _, text := range []string{many + "w", deep + "w", many + "; +", deep + "; (", deep + ")", "(" + deep, "+ w;" + deep, "F := {" + deep + "}}", "x := " + many + "; x y", many + "\n;\n:= 1", "take " + deep} {
		codeOf(t, text, 3)
	}
	codeOf(t, many+";"+deep, 4)
}
