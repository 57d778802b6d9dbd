package tests

import (
	"slices"

	"loop.example/s02135/impl"
)

// A second reading of chapter 4. A run is done without limits and written on a
// tape, a place for each step; limits only say where the tape is cut off.

// cutOff is no code: the tape is longer than any limit asks for.
const cutOff = -1

type boundArray struct {
	name  string
	array impl.Array
}

// tape has for each step the cells that it uses.
type tape struct {
	uses      []int
	most      int
	state     uint64
	roll      bool
	names     []boundArray
	functions []impl.Stmt
}

// scene is what a call can see: its own names, its function and how many calls
// are being done. The program itself has no function.
type scene struct {
	own      []boundArray
	function *impl.Stmt
	calls    int
}

// modelRun keeps the value of the last StmtValue.
func modelRun(p []impl.Stmt, w impl.Array, l impl.Limits) impl.Outcome {
	r := &tape{most: l.Fuel + 1, state: uint64(l.Seed), roll: l.Roll, names: []boundArray{{"w", w}}}
	value, code := impl.Array{}, impl.NoValue
	for _, s := range p {
		if s.Kind == impl.StmtFunc {
			r.functions = append(r.functions, s)
			continue
		}
		got, failed := r.eval(scene{}, s.Code)
		if failed != 0 {
			value, code = impl.Array{}, failed
			break
		}
		if s.Kind == impl.StmtName {
			r.names = append(r.names, boundArray{s.Name, got})
		} else {
			value, code = got, 0
		}
	}
	return r.cut(l, value, code)
}

func (r *tape) cut(l impl.Limits, value impl.Array, code int) impl.Outcome {
	cells := 0
	for fuel, used := range r.uses {
		if fuel == l.Fuel {
			return impl.Outcome{Kind: impl.DidFuel, Fuel: fuel, Cells: cells}
		}
		if cells+used > l.Cells {
			return impl.Outcome{Kind: impl.DidCells, Fuel: fuel + 1, Cells: cells}
		}
		cells += used
	}
	if code != 0 {
		return impl.Outcome{Kind: impl.DidError, Code: code, Fuel: len(r.uses), Cells: cells}
	}
	return impl.Outcome{Kind: impl.DidValue, Value: value, Fuel: len(r.uses), Cells: cells}
}

// operandStart is where the code of the last operand begins.
func operandStart(code []impl.Step) int {
	missing := 1
	for at := len(code) - 1; ; at-- {
		switch code[at].Kind {
		case impl.StepNums, impl.StepName:
			missing--
		case impl.StepTwo:
			missing++
		}
		if missing == 0 {
			return at
		}
	}
}

// eval goes from the last step, whose function is the outermost one, inwards.
func (r *tape) eval(s scene, code []impl.Step) (impl.Array, int) {
	last := code[len(code)-1]
	var given []impl.Array // w, a
	rest := code[:len(code)-1]
	if last.Kind == impl.StepTwo {
		left := operandStart(rest)
		w, failed := r.eval(s, rest[:left])
		if failed != 0 {
			return impl.Array{}, failed
		}
		given, rest = append(given, w), rest[left:]
	}
	if last.Kind == impl.StepOne || last.Kind == impl.StepTwo {
		top, failed := r.eval(s, rest)
		if failed != 0 {
			return impl.Array{}, failed
		}
		given = append(given, top)
	}
	return r.last(s, last, given)
}

func (r *tape) last(s scene, step impl.Step, given []impl.Array) (impl.Array, int) {
	if len(r.uses) == r.most {
		return impl.Array{}, cutOff
	}
	at := len(r.uses)
	r.uses = append(r.uses, 0)
	var put impl.Array
	failed := 0
	switch {
	case step.Kind == impl.StepName:
		return lookUp(step.Name, r.names, s.own)
	case step.Fn.Kind == impl.FnCall:
		return r.call(s, step.Fn.Name, given)
	case step.Kind == impl.StepNums && len(step.Nums) == 1:
		put = scalarOf(step.Nums[0])
	case step.Kind == impl.StepNums:
		put = vectorOf(step.Nums...)
	case step.Fn.Kind == impl.FnRoll:
		put, failed = r.rolled(given[0])
	case step.Kind == impl.StepOne:
		put, failed = modelOne(step.Fn, given[0])
	default:
		put, failed = modelTwo(step.Fn, given[1], given[0])
	}
	r.uses[at] = len(put.Data)
	return put, failed
}

// lookUp goes through the lists from the last to the first, each from behind.
func lookUp(name string, lists ...[]boundArray) (impl.Array, int) {
	all := slices.Concat(lists...)
	for i := len(all) - 1; i >= 0; i-- {
		if all[i].name == name {
			return all[i].array, 0
		}
	}
	return impl.Array{}, impl.NoName
}

func (r *tape) call(s scene, name string, given []impl.Array) (impl.Array, int) {
	function := s.function
	if name != "self" {
		function = nil
		for i := range r.functions {
			if r.functions[i].Name == name {
				function = &r.functions[i]
			}
		}
	}
	if function == nil {
		return impl.Array{}, impl.NoName
	}
	if s.calls >= impl.MaxDepth {
		return impl.Array{}, impl.TooDeep
	}
	inside := scene{own: []boundArray{{"w", given[0]}}, function: function, calls: s.calls + 1}
	if len(given) == 2 {
		inside.own = append(inside.own, boundArray{"a", given[1]})
	}
	for _, g := range function.Guards {
		test, failed := r.eval(inside, g.Test)
		switch {
		case failed != 0:
			return impl.Array{}, failed
		case words(test.Data) == "1":
			return r.eval(inside, g.Then)
		case words(test.Data) != "0":
			return impl.Array{}, impl.Domain
		}
	}
	return r.eval(inside, function.Code)
}

// rolled takes the product modulo 2 to the power of 31, less 1, by the sum of
// its two halves.
func (r *tape) rolled(w impl.Array) (impl.Array, int) {
	if !r.roll {
		return impl.Array{}, impl.NoRight
	}
	data := make([]int, len(w.Data))
	for i, n := range w.Data {
		if n <= 0 {
			return impl.Array{}, impl.Domain
		}
		const low = 1<<31 - 1
		product := r.state * 48271
		sum := product&low + product>>31
		if sum >= low {
			sum -= low
		}
		r.state = sum
		data[i] = int(sum % uint64(n))
	}
	return made(slices.Clone(w.Shape), data...), 0
}

func modelOne(fn impl.Fn, w impl.Array) (impl.Array, int) {
	switch fn.Kind {
	case impl.FnEach1:
		return modelEach1(fn.A, w)
	case impl.FnMonad:
		return modelMonad(fn.A, w)
	case impl.FnReduce:
		return modelReduce(fn.A, w)
	case impl.FnScan:
		return modelScan(fn.A, w)
	}
	panic("not a function in front of one array")
}

func modelTwo(fn impl.Fn, a, w impl.Array) (impl.Array, int) {
	switch fn.Kind {
	case impl.FnEach2:
		return modelEach2(fn.A, a, w)
	case impl.FnDyad:
		return modelDyad(fn.A, a, w)
	case impl.FnOuter:
		return modelOuter(fn.A, a, w)
	case impl.FnInner:
		return modelInner(fn.A, fn.B, a, w)
	}
	panic("not a function between two arrays")
}
