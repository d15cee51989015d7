package tests

import (
	"maps"
	"math/big"
	"regexp"
	"strconv"
	"strings"

	"loop.example/s0031/impl"
)

// The oracles say once more, in other words and with other means, what the program must answer.

var (
	shapeForm = regexp.MustCompile(`^[!-~]+( [!-~]+)*$`)
	indexForm = regexp.MustCompile(`^(0|[1-9][0-9]{0,3})$`)
	constForm = regexp.MustCompile(`^(0|-?[1-9][0-9]{0,8}|-?1000000000)$`)
	headForm  = regexp.MustCompile(`^func (0|[1-9][0-9]{0,3})$`)
)

const wordsOfOps = "const arg add sub mul div less load store out"

func oracleParse(text string) (int64, int64) {
	if len(text) > 100000 {
		return 1, 0
	}
	if !strings.HasSuffix(text, "\n") {
		return 2, 0
	}
	lines := strings.Split(strings.TrimSuffix(text, "\n"), "\n")
	if !headForm.MatchString(lines[0]) {
		return 3, 1
	}
	state := "none"
	for i, line := range lines[1:] {
		code := oracleLine(line)
		if code == 0 {
			state = oraclePlace(state, strings.Split(line, " ")[0])
		}
		if state == "wrong" {
			code = 8
		}
		if code != 0 {
			return code, int64(i + 2)
		}
	}
	if state == "begun" || state == "inside" {
		return 8, int64(len(lines))
	}
	if !oracleValid(oracleBuild(lines)) {
		return 9, 0
	}
	return 0, 0
}

func oracleLine(line string) int64 {
	if !shapeForm.MatchString(line) {
		return 4
	}
	fields := strings.Split(line, " ")
	counts := map[string]int{"block": 1, "out": 2, "jump": 2, "ret": 2, "const": 3, "arg": 3, "load": 3, "store": 3, "branch": 4, "add": 4, "sub": 4, "mul": 4, "div": 4, "less": 4, "phi": -3}
	count, known := counts[fields[0]]
	if !known {
		return 5
	}
	if count > 0 && len(fields) != count || count < 0 && len(fields) < -count {
		return 6
	}
	for i, field := range fields[1:] {
		form := indexForm
		if fields[0] == "const" && i == 1 {
			form = constForm
		}
		if !form.MatchString(field) {
			return 7
		}
	}
	return 0
}

// oraclePlace: none (no block is open), begun (only phis so far), inside (an instruction has come).
func oraclePlace(state string, word string) string {
	switch {
	case word == "block" && state == "none":
		return "begun"
	case word == "phi" && state == "begun":
		return "begun"
	case strings.Contains("jump branch ret", word) && state != "none":
		return "none"
	case strings.Contains(wordsOfOps, word) && state != "none":
		return "inside"
	}
	return "wrong"
}

func oracleBuild(lines []string) impl.Func {
	f := impl.Func{}
	for _, line := range lines {
		fields := strings.Split(line, " ")
		x := []int64{}
		for _, field := range fields[1:] {
			n, _ := strconv.ParseInt(field, 10, 64)
			x = append(x, n)
		}
		if fields[0] == "func" {
			f.Values = x[0]
			continue
		}
		if fields[0] == "block" {
			f.Blocks = append(f.Blocks, impl.Block{})
			continue
		}
		b := &f.Blocks[len(f.Blocks)-1]
		switch fields[0] {
		case "phi":
			b.Phis = append(b.Phis, impl.Phi{Dst: x[0], Args: x[1 : len(fields)-1]})
		case "jump":
			b.Term = impl.Term{Kind: 1, To: x[0]}
		case "branch":
			b.Term = impl.Term{Kind: 2, A: x[0], To: x[1], Else: x[2]}
		case "ret":
			b.Term = impl.Term{Kind: 3, A: x[0]}
		case "const":
			b.Instrs = append(b.Instrs, impl.Instr{Op: 1, Dst: x[0], Imm: x[1]})
		case "arg":
			b.Instrs = append(b.Instrs, impl.Instr{Op: 2, Dst: x[0], Imm: x[1]})
		case "load":
			b.Instrs = append(b.Instrs, impl.Instr{Op: 8, Dst: x[0], A: x[1]})
		case "store":
			b.Instrs = append(b.Instrs, impl.Instr{Op: 9, A: x[0], B: x[1]})
		case "out":
			b.Instrs = append(b.Instrs, impl.Instr{Op: 10, A: x[0]})
		default:
			op := map[string]int64{"add": 3, "sub": 4, "mul": 5, "div": 6, "less": 7}[fields[0]]
			b.Instrs = append(b.Instrs, impl.Instr{Op: op, Dst: x[0], A: x[1], B: x[2]})
		}
	}
	return f
}

// fieldsOfOp: of Dst, A, B and Imm those that are used, by the letters d, a, b, i.
func fieldsOfOp(op int64) string {
	switch op {
	case 1, 2:
		return "di"
	case 3, 4, 5, 6, 7:
		return "dab"
	case 8:
		return "da"
	case 9:
		return "ab"
	case 10, 12:
		return "a"
	case 11:
		return "da"
	case 13:
		return "d"
	}
	return ""
}

// oracleInstr asks of one instruction that its fields are cells as far as they are used, and 0 if they are not.
func oracleInstr(in impl.Instr, isCell func(int64) bool) bool {
	used := fieldsOfOp(in.Op)
	good := used != ""
	for letter, x := range map[string]int64{"d": in.Dst, "a": in.A, "b": in.B} {
		good = good && (strings.Contains(used, letter) && isCell(x) || !strings.Contains(used, letter) && x == 0)
	}
	good = good && (strings.Contains(used, "i") || in.Imm == 0)
	good = good && (in.Op != 1 || in.Imm >= -1000000000 && in.Imm <= 1000000000)
	return good && (in.Op != 2 || in.Imm >= 0 && in.Imm <= 7)
}

func oracleValid(f impl.Func) bool {
	n := int64(len(f.Blocks))
	if f.Values < 0 || f.Values > 2000 || n < 1 || n > 1000 {
		return false
	}
	good := true
	must := func(holds bool) { good = good && holds }
	isValue := func(v int64) bool { return 0 <= v && v < f.Values }
	defined := map[int64]int{}
	size := 0
	for b, block := range f.Blocks {
		size++
		from := oraclePreds(f, int64(b))
		for _, p := range block.Phis {
			size += 1 + len(p.Args)
			must(isValue(p.Dst) && len(p.Args) > 0 && len(p.Args) == len(from))
			for _, a := range p.Args {
				must(isValue(a))
			}
			defined[p.Dst]++
		}
		for _, in := range block.Instrs {
			size++
			must(in.Op <= 10 && oracleInstr(in, isValue))
			if strings.Contains(fieldsOfOp(in.Op), "d") {
				defined[in.Dst]++
			}
		}
		must(oracleTerm(block.Term, isValue, func(b int64) bool { return 0 < b && b < n }))
		must(block.Term.Kind != 2 || block.Term.To != block.Term.Else)
	}
	for v := int64(0); v < f.Values; v++ {
		must(defined[v] == 1)
	}
	return good && size <= 4000
}

func oracleTerm(t impl.Term, isCell func(int64) bool, isTarget func(int64) bool) bool {
	switch t.Kind {
	case 1:
		return t.A == 0 && isTarget(t.To) && t.Else == 0
	case 2:
		return isCell(t.A) && isTarget(t.To) && isTarget(t.Else)
	case 3:
		return isCell(t.A) && t.To == 0 && t.Else == 0
	}
	return false
}

func oraclePreds(f impl.Func, b int64) []int64 {
	out := []int64{}
	for p, block := range f.Blocks {
		if block.Term.Kind != 3 && block.Term.To == b || block.Term.Kind == 2 && block.Term.Else == b {
			out = append(out, int64(p))
		}
	}
	return out
}

func wrap(x *big.Int) int64 {
	return int64(new(big.Int).And(x, new(big.Int).SetUint64(1<<64-1)).Uint64())
}

func oracleArith(op int64, a int64, b int64) int64 {
	x, y := big.NewInt(a), big.NewInt(b)
	z := new(big.Int)
	switch op {
	case 3:
		z.Add(x, y)
	case 4:
		z.Sub(x, y)
	case 5:
		z.Mul(x, y)
	case 6:
		z.Quo(x, y)
	case 7:
		if x.Cmp(y) < 0 {
			z.SetInt64(1)
		}
	}
	return wrap(z)
}

func oracleCell(x int64) int64 {
	return new(big.Int).Mod(big.NewInt(x), big.NewInt(32)).Int64()
}

// oracleState is a run of a function or of a machine program; cell -1 is the scratch.
type oracleState struct {
	out   impl.Outcome
	cells map[int64]int64
	args  []int64
	fuel  int64
}

func newOracleState(args []int64, heap []int64, fuel int64) *oracleState {
	s := &oracleState{cells: map[int64]int64{}, args: append(append([]int64{}, args...), make([]int64, 8)...), fuel: fuel}
	s.out.Heap = append(append([]int64{}, heap...), make([]int64, 32-len(heap))...)
	return s
}

// pay tells whether the run has stopped because there is no fuel for one step more.
func (s *oracleState) pay() bool {
	if s.out.Steps == s.fuel {
		s.out.Code = impl.OutFuel
		return true
	}
	s.out.Steps++
	return false
}

// instrs tells whether the run has stopped inside a block.
func (s *oracleState) instrs(list []impl.Instr) bool {
	for _, in := range list {
		if s.pay() {
			return true
		}
		a, b := s.cells[in.A], s.cells[in.B]
		switch {
		case in.Op == 1:
			s.cells[in.Dst] = in.Imm
		case in.Op == 2:
			s.cells[in.Dst] = s.args[in.Imm]
		case in.Op == 6 && b == 0:
			s.out.Code = impl.OutTrap
			return true
		case in.Op <= 7:
			s.cells[in.Dst] = oracleArith(in.Op, a, b)
		case in.Op == 8:
			s.cells[in.Dst] = s.out.Heap[oracleCell(a)]
		case in.Op == 9:
			s.out.Heap[oracleCell(a)] = b
		case in.Op == 10:
			s.out.Trace = append(s.out.Trace, a)
		case in.Op == 11:
			s.cells[in.Dst] = a
		case in.Op == 12:
			s.cells[-1] = a
		case in.Op == 13:
			s.cells[in.Dst] = s.cells[-1]
		}
	}
	return false
}

// end gives the block to which the run goes, -1 if it has stopped.
func (s *oracleState) end(t impl.Term) int64 {
	if s.pay() {
		return -1
	}
	if t.Kind == 3 {
		s.out.Code, s.out.Value = impl.OutReturn, s.cells[t.A]
		return -1
	}
	if t.Kind == 2 && s.cells[t.A] == 0 {
		return t.Else
	}
	return t.To
}

// oracleRun is for valid functions and runs within the limits.
func oracleRun(f impl.Func, args []int64, heap []int64, fuel int64) impl.Outcome {
	s := newOracleState(args, heap, fuel)
	at := int64(0)
	for {
		if s.instrs(f.Blocks[at].Instrs) {
			return s.out
		}
		next := s.end(f.Blocks[at].Term)
		if next < 0 {
			return s.out
		}
		after := maps.Clone(s.cells)
		for i, p := range oraclePreds(f, next) {
			for _, phi := range f.Blocks[next].Phis {
				if p == at {
					after[phi.Dst] = s.cells[phi.Args[i]]
				}
			}
		}
		s.cells, at = after, next
	}
}
