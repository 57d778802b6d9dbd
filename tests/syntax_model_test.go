package tests

import (
	"regexp"
	"slices"
	"strconv"
	"strings"

	"loop.example/s02135/impl"
)

// A second reading of chapter 3, built in another way than the program: tokens
// are cut by patterns, the form is tried in every way that its rules allow, and
// a program is written by putting texts on a stack.

// tableRow is a row of the document's table of functions, for one word or sign.
type tableRow struct {
	text     string
	one, two impl.Fn
}

func tableRows() []tableRow {
	each1 := func(op int) impl.Fn { return impl.Fn{Kind: impl.FnEach1, A: op} }
	each2 := func(op int) impl.Fn { return impl.Fn{Kind: impl.FnEach2, A: op} }
	monad := func(f int) impl.Fn { return impl.Fn{Kind: impl.FnMonad, A: f} }
	dyad := func(f int) impl.Fn { return impl.Fn{Kind: impl.FnDyad, A: f} }
	none := impl.Fn{}
	return []tableRow{
		{"+", none, each2(1)}, {"*", none, each2(3)}, {"%", none, each2(4)}, {"<", none, each2(8)}, {"=", none, each2(9)}, {">", none, each2(10)}, {"max", none, each2(7)}, {"min", none, each2(6)},
		{"-", each1(1), each2(2)},
		{"|", none, each2(5)},
		{"~", each1(4), none}, {"abs", each1(2), none}, {"sign", each1(3), none},
		{"iota", monad(1), dyad(6)},
		{"rho", monad(2), dyad(1)},
		{"cat", monad(3), dyad(4)},
		{"rev", monad(4), none}, {"flip", monad(5), none}, {"grade", monad(6), none}, {"count", monad(7), none},
		{"take", none, dyad(2)}, {"drop", none, dyad(3)}, {"from", none, dyad(5)}, {"match", none, dyad(7)},
		{"roll", impl.Fn{Kind: 9}, none},
	}
}

// placedFn is a function with its tokens and its text, in one of the places.
type placedFn struct {
	tokens []string
	text   string
	fn     impl.Fn
}

func plainFns(pick func(tableRow) impl.Fn) []placedFn {
	var list []placedFn
	for _, r := range tableRows() {
		if pick(r).Kind != 0 {
			list = append(list, placedFn{[]string{r.text}, r.text, pick(r)})
		}
	}
	return list
}

func operations() []placedFn {
	return slices.DeleteFunc(betweenPlain(), func(f placedFn) bool { return f.fn.Kind != impl.FnEach2 })
}

func betweenPlain() []placedFn { return plainFns(func(r tableRow) impl.Fn { return r.two }) }

// inFront has all functions of the table that stand in front of one array, but
// for calls; between has those that stand between two.
func inFront() []placedFn {
	list := plainFns(func(r tableRow) impl.Fn { return r.one })
	for _, p := range operations() {
		list = append(list,
			placedFn{[]string{p.text, "/"}, p.text + "/", impl.Fn{Kind: 3, A: p.fn.A}},
			placedFn{[]string{p.text, "\\"}, p.text + "\\", impl.Fn{Kind: 4, A: p.fn.A}})
	}
	return list
}

func between() []placedFn {
	list := betweenPlain()
	for _, p := range operations() {
		list = append(list, placedFn{[]string{"@", p.text}, "@" + p.text, impl.Fn{Kind: 7, A: p.fn.A}})
		for _, q := range operations() {
			list = append(list, placedFn{[]string{p.text, ".", q.text}, p.text + "." + q.text, impl.Fn{Kind: 8, A: p.fn.A, B: q.fn.A}})
		}
	}
	return list
}

var (
	passedOver = regexp.MustCompile(`^(?:[ \t\r]|#[^\n]*)`)
	tokenShape = regexp.MustCompile(`^(?:[_0-9][0-9A-Za-z]*|[A-Za-z][0-9A-Za-z]*|:=|[-+*%|<=>~(){}:;/\\@.\n])`)
	numberForm = regexp.MustCompile(`^_?[0-9]{1,10}$`)
	smallWord  = regexp.MustCompile(`^[a-z][0-9A-Za-z]{0,19}$`)
	greatWord  = regexp.MustCompile(`^[A-Z][0-9A-Za-z]{0,19}$`)
	ownWords   = strings.Fields("max min abs sign iota rho cat rev flip grade count take drop from match roll self")
)

func isArrayName(text string) bool {
	return smallWord.MatchString(text) && !slices.Contains(ownWords, text)
}

func isFuncName(text string) bool { return greatWord.MatchString(text) || text == "self" }

func isNumber(text string) bool {
	if !numberForm.MatchString(text) {
		return false
	}
	value := numberValue(text)
	return -impl.MaxValue <= value && value <= impl.MaxValue
}

func numberValue(text string) int {
	value, _ := strconv.Atoi(strings.Replace(text, "_", "-", 1))
	return value
}

// modelTokens gives the offset of the first bad token, or -1.
func modelTokens(text string) ([]string, int) {
	var tokens []string
	for at := 0; at < len(text); {
		if over := passedOver.FindString(text[at:]); over != "" {
			at += len(over)
			continue
		}
		token := tokenShape.FindString(text[at:])
		wordy := token != "" && (token[0] == '_' || token[0] >= '0' && token[0] <= '9' || token[0] >= 'A' && token[0] <= 'Z' || token[0] >= 'a' && token[0] <= 'z')
		if token == "" || wordy && !isNumber(token) && !smallWord.MatchString(token) && !greatWord.MatchString(token) {
			return nil, at
		}
		at += len(token)
		tokens = append(tokens, strings.Replace(token, "\n", ";", 1))
	}
	return tokens, -1
}

// reading is one way to read what begins at a token: where it ends, the code,
// and what is held against the limits.
type reading struct {
	end  int
	code []impl.Step
	nest int
	most int
}

type reader struct {
	tokens []string
	seen   [][]reading
	known  []bool
	one    []placedFn
	two    []placedFn
}

func (r *reader) is(at int, text string) bool { return at < len(r.tokens) && r.tokens[at] == text }

func (r *reader) functions(at int, fns []placedFn) []placedFn {
	var list []placedFn
	for _, f := range fns {
		if at+len(f.tokens) <= len(r.tokens) && slices.Equal(r.tokens[at:at+len(f.tokens)], f.tokens) {
			list = append(list, f)
		}
	}
	if at < len(r.tokens) && isFuncName(r.tokens[at]) {
		list = append(list, placedFn{tokens: r.tokens[at : at+1], fn: impl.Fn{Kind: impl.FnCall, Name: r.tokens[at]}})
	}
	return list
}

func (r *reader) operand(at int) []reading {
	var list []reading
	var nums []int
	for i := at; i < len(r.tokens) && isNumber(r.tokens[i]); i++ {
		nums = append(nums, numberValue(r.tokens[i]))
		list = append(list, reading{end: i + 1, code: []impl.Step{{Kind: impl.StepNums, Nums: slices.Clone(nums)}}, most: len(nums)})
	}
	if at < len(r.tokens) && isArrayName(r.tokens[at]) {
		list = append(list, reading{end: at + 1, code: []impl.Step{{Kind: impl.StepName, Name: r.tokens[at]}}})
	}
	if r.is(at, "(") {
		for _, e := range r.expr(at + 1) {
			if r.is(e.end, ")") {
				list = append(list, reading{end: e.end + 1, code: e.code, nest: e.nest + 1, most: e.most})
			}
		}
	}
	return list
}

func (r *reader) expr(at int) []reading {
	if at >= len(r.tokens) {
		return nil
	}
	if r.known[at] {
		return r.seen[at]
	}
	var list []reading
	for _, left := range r.operand(at) {
		list = append(list, left)
		for _, f := range r.functions(left.end, r.two) {
			for _, right := range r.expr(left.end + len(f.tokens)) {
				code := slices.Concat(right.code, left.code, []impl.Step{{Kind: impl.StepTwo, Fn: f.fn}})
				list = append(list, reading{right.end, code, max(left.nest, right.nest), max(left.most, right.most)})
			}
		}
	}
	for _, f := range r.functions(at, r.one) {
		for _, right := range r.expr(at + len(f.tokens)) {
			code := slices.Concat(right.code, []impl.Step{{Kind: impl.StepOne, Fn: f.fn}})
			list = append(list, reading{right.end, code, right.nest, right.most})
		}
	}
	r.known[at], r.seen[at] = true, list
	return list
}

// partsReading is one way to read statements, or the guards of a body.
type partsReading struct {
	end    int
	stmts  []impl.Stmt
	guards []impl.Guard
	nest   int
	most   int
}

// semicolons gives all places that can be reached by going past so many or
// more of them.
func (r *reader) semicolons(at, least int) []int {
	var ends []int
	for n := 0; ; n++ {
		if n >= least {
			ends = append(ends, at+n)
		}
		if !r.is(at+n, ";") {
			return ends
		}
	}
}

func (r *reader) guards(at int) []partsReading {
	list := []partsReading{{end: at}}
	for _, test := range r.expr(at) {
		if !r.is(test.end, ":") {
			continue
		}
		for _, then := range r.expr(test.end + 1) {
			for _, behind := range r.semicolons(then.end, 1) {
				for _, rest := range r.guards(behind) {
					rest.guards = append([]impl.Guard{{Test: test.code, Then: then.code}}, rest.guards...)
					rest.nest = max(rest.nest, test.nest, then.nest)
					rest.most = max(rest.most, test.most, then.most)
					list = append(list, rest)
				}
			}
		}
	}
	return list
}

func (r *reader) function(at int, name string) []partsReading {
	var list []partsReading
	for _, first := range r.semicolons(at, 0) {
		for _, g := range r.guards(first) {
			for _, e := range r.expr(g.end) {
				for _, end := range r.semicolons(e.end, 0) {
					if r.is(end, "}") {
						s := impl.Stmt{Kind: impl.StmtFunc, Name: name, Code: e.code, Guards: g.guards}
						list = append(list, partsReading{end: end + 1, stmts: []impl.Stmt{s}, nest: max(g.nest, e.nest), most: max(g.most, e.most)})
					}
				}
			}
		}
	}
	return list
}

func (r *reader) stmt(at int) []partsReading {
	var list []partsReading
	plain := func(from, kind int, name string) {
		for _, e := range r.expr(from) {
			list = append(list, partsReading{end: e.end, stmts: []impl.Stmt{{Kind: kind, Name: name, Code: e.code}}, nest: e.nest, most: e.most})
		}
	}
	plain(at, impl.StmtValue, "")
	if r.is(at+1, ":=") && isArrayName(r.tokens[at]) {
		plain(at+2, impl.StmtName, r.tokens[at])
	}
	if r.is(at+1, ":=") && greatWord.MatchString(r.tokens[at]) && r.is(at+2, "{") {
		list = append(list, r.function(at+3, r.tokens[at])...)
	}
	return list
}

// stmts reads what is left of a program behind the first `;`s.
func (r *reader) stmts(at int) []partsReading {
	var list []partsReading
	for _, s := range r.stmt(at) {
		for _, end := range r.semicolons(s.end, 0) {
			if end == len(r.tokens) {
				list = append(list, s)
			} else if end > s.end {
				for _, rest := range r.stmts(end) {
					list = append(list, partsReading{rest.end, slices.Concat(s.stmts, rest.stmts), nil, max(s.nest, rest.nest), max(s.most, rest.most)})
				}
			}
		}
	}
	return list
}

// grammar keeps the functions of both places, as they are the same for all.
type grammar struct{ one, two []placedFn }

func newGrammar() grammar { return grammar{inFront(), between()} }

// parse is Parse by the second reading. The last answer is the number of ways
// in which the text can be read.
func (g grammar) parse(text string) ([]impl.Stmt, int, int, int) {
	if len(text) > impl.MaxText {
		return nil, 1, 0, 0
	}
	tokens, bad := modelTokens(text)
	if bad >= 0 {
		return nil, 2, bad, 0
	}
	if len(strings.Trim(strings.Join(tokens, ""), ";")) == 0 {
		return nil, 0, 0, 1
	}
	r := &reader{tokens: tokens, seen: make([][]reading, len(tokens)), known: make([]bool, len(tokens)), one: g.one, two: g.two}
	var all []partsReading
	for _, first := range r.semicolons(0, 0) {
		all = append(all, r.stmts(first)...)
	}
	switch {
	case len(all) == 0:
		return nil, 3, 0, 0
	case all[0].nest > impl.MaxNest || all[0].most > impl.MaxCells:
		return nil, 4, 0, len(all)
	}
	return all[0].stmts, 0, 0, len(all)
}

// piece is the text of an expr with what its brackets hang on.
type piece struct {
	text string
	bare bool
	nest int
}

// print is Print by the second reading.
func (g grammar) print(p []impl.Stmt) (string, bool) {
	text := ""
	for _, s := range p {
		line, ok := g.line(s)
		if !ok {
			return "", false
		}
		text += line + "\n"
	}
	if len(text) > impl.MaxText {
		return "", false
	}
	return text, true
}

func (g grammar) line(s impl.Stmt) (string, bool) {
	expr, ok := g.exprText(s.Code)
	guards := ""
	for _, guard := range s.Guards {
		test, testOk := g.exprText(guard.Test)
		then, thenOk := g.exprText(guard.Then)
		ok = ok && testOk && thenOk
		guards += test + " : " + then + "; "
	}
	switch {
	case !ok:
		return "", false
	case s.Kind == impl.StmtValue && s.Name == "" && guards == "":
		return expr, true
	case s.Kind == impl.StmtName && isArrayName(s.Name) && guards == "":
		return s.Name + " := " + expr, true
	case s.Kind == impl.StmtFunc && greatWord.MatchString(s.Name):
		return s.Name + " := {" + guards + expr + "}", true
	}
	return "", false
}

func (g grammar) exprText(code []impl.Step) (string, bool) {
	var stack []piece
	for _, s := range code {
		var ok bool
		if stack, ok = g.step(stack, s); !ok {
			return "", false
		}
	}
	if len(stack) != 1 || stack[0].nest > impl.MaxNest {
		return "", false
	}
	return stack[0].text, true
}

func (g grammar) step(stack []piece, s impl.Step) ([]piece, bool) {
	top := len(stack) - 1
	switch {
	case s.Kind == impl.StepNums && s.Name == "" && s.Fn == impl.Fn{} && len(s.Nums) >= 1 && len(s.Nums) <= impl.MaxCells:
		words := make([]string, len(s.Nums))
		for i, number := range s.Nums {
			words[i] = strings.Replace(strconv.Itoa(number), "-", "_", 1)
			if !isNumber(words[i]) {
				return nil, false
			}
		}
		return append(stack, piece{text: strings.Join(words, " "), bare: true}), true
	case s.Kind == impl.StepName && len(s.Nums) == 0 && s.Fn == impl.Fn{} && isArrayName(s.Name):
		return append(stack, piece{text: s.Name, bare: true}), true
	case s.Kind == impl.StepOne && len(s.Nums) == 0 && s.Name == "" && top >= 0:
		f := fnText(g.one, s.Fn)
		return append(stack[:top], piece{text: f + " " + stack[top].text, nest: stack[top].nest}), f != ""
	case s.Kind == impl.StepTwo && len(s.Nums) == 0 && s.Name == "" && top >= 1:
		f := fnText(g.two, s.Fn)
		left, right := stack[top], stack[top-1]
		if !left.bare {
			left.text = "(" + left.text + ")"
			left.nest++
		}
		return append(stack[:top-1], piece{text: left.text + " " + f + " " + right.text, nest: max(left.nest, right.nest)}), f != ""
	}
	return nil, false
}

func fnText(fns []placedFn, fn impl.Fn) string {
	for _, f := range fns {
		if f.fn == fn {
			return f.text
		}
	}
	if isFuncName(fn.Name) && fn == (impl.Fn{Kind: impl.FnCall, Name: fn.Name}) {
		return fn.Name
	}
	return ""
}
