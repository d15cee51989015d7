package impl

import (
	"bytes"
	"errors"
	"slices"
	"strconv"
)

const MaxText = 100000
const MaxBlocks = 1000
const MaxValues = 2000
const MaxSize = 4000
const MaxArgs = 8
const MaxImm = 1000000000
const HeapSize = 32
const MaxFuel = 60000

const OpConst = 1
const OpArg = 2
const OpAdd = 3
const OpSub = 4
const OpMul = 5
const OpDiv = 6
const OpLess = 7
const OpLoad = 8
const OpStore = 9
const OpOut = 10

const TermJump = 1
const TermBranch = 2
const TermRet = 3

const ErrTooLong = 1
const ErrNoEnd = 2
const ErrHeader = 3
const ErrShape = 4
const ErrWord = 5
const ErrCount = 6
const ErrNumber = 7
const ErrPlace = 8
const ErrInvalid = 9

const OutReturn = 1
const OutTrap = 2
const OutFuel = 3
const OutBad = 4

type Instr struct {
	Op  int64
	Dst int64
	A   int64
	B   int64
	Imm int64
}

type Term struct {
	Kind int64
	A    int64
	To   int64
	Else int64
}

type Phi struct {
	Dst  int64
	Args []int64
}

type Block struct {
	Phis   []Phi
	Instrs []Instr
	Term   Term
}

type Func struct {
	Values int64
	Blocks []Block
}

type Parsed struct {
	Code int64
	Line int64
	Func Func
}

type Outcome struct {
	Code  int64
	Value int64
	Steps int64
	Trace []int64
	Heap  []int64
}

// ParseFunc reads the text of a function, or tells its first error.
func ParseFunc(text []byte) Parsed {
	f, err := readText(text)
	var fault lineFault
	if errors.As(err, &fault) {
		return Parsed{Code: fault.code, Line: fault.line}
	}
	return Parsed{Func: f}
}

// ValidFunc tells whether f keeps all rules of a function.
func ValidFunc(f Func) bool {
	return validSize(f) && validTerms(f) && validInstrs(f) && validPhis(f) && definedOnce(f)
}

// EncodeFunc writes the text of a valid function.
func EncodeFunc(f Func) []byte {
	if !ValidFunc(f) {
		return []byte{}
	}
	out := appendLine([]byte{}, "func", f.Values)
	for _, b := range f.Blocks {
		out = appendLine(out, "block")
		for _, p := range b.Phis {
			out = appendLine(out, "phi", slices.Insert(slices.Clone(p.Args), 0, p.Dst)...)
		}
		out = appendCode(out, b.Instrs, b.Term)
	}
	return out
}

// RunFunc runs a valid function until it returns, traps or has no fuel left.
func RunFunc(f Func, args []int64, heap []int64, fuel int64) Outcome {
	if !ValidFunc(f) || !validRun(args, heap, fuel) {
		return Outcome{Code: OutBad}
	}
	r := funcRun{runState: newRunState(args, heap, fuel, f.Values), f: f, preds: predecessors(f)}
	r.makeNodes()
	return r.run()
}

// opForm tells which fields an instruction uses. In the text its numbers stand
// in the order Dst, A, B, Imm. The copies, of which functions have none, stand
// beside the others so that one rule writes them all.
type opForm struct {
	word string
	dst  bool
	a    bool
	b    bool
	imm  bool
}

var opForms = [...]opForm{
	OpConst: {word: "const", dst: true, imm: true},
	OpArg:   {word: "arg", dst: true, imm: true},
	OpAdd:   {word: "add", dst: true, a: true, b: true},
	OpSub:   {word: "sub", dst: true, a: true, b: true},
	OpMul:   {word: "mul", dst: true, a: true, b: true},
	OpDiv:   {word: "div", dst: true, a: true, b: true},
	OpLess:  {word: "less", dst: true, a: true, b: true},
	OpLoad:  {word: "load", dst: true, a: true},
	OpStore: {word: "store", a: true, b: true},
	OpOut:   {word: "out", a: true},
	OpMove:  {word: "move", dst: true, a: true},
	OpPut:   {word: "put", a: true},
	OpGet:   {word: "get", dst: true},
}

// termForm tells which fields the end of a block uses. In the text its numbers
// stand in the order A, To, Else.
type termForm struct {
	word  string
	a     bool
	to    bool
	other bool
}

var termForms = [...]termForm{
	TermJump:   {word: "jump", to: true},
	TermBranch: {word: "branch", a: true, to: true, other: true},
	TermRet:    {word: "ret", a: true},
}

// used gives the fields that the instruction uses, in the order of the text, so
// that reading and writing cannot differ in it.
func (in *Instr) used() []*int64 {
	form := opForms[in.Op]
	return chosen([]bool{form.dst, form.a, form.b, form.imm}, &in.Dst, &in.A, &in.B, &in.Imm)
}

// used gives the fields that the end uses, in the order of the text.
func (t *Term) used() []*int64 {
	form := termForms[t.Kind]
	return chosen([]bool{form.a, form.to, form.other}, &t.A, &t.To, &t.Else)
}

// cells gives the fields that hold a value or a register.
func (in *Instr) cells() []*int64 {
	form := opForms[in.Op]
	return chosen([]bool{form.dst, form.a, form.b}, &in.Dst, &in.A, &in.B)
}

func (t *Term) cells() []*int64 {
	return chosen([]bool{termForms[t.Kind].a}, &t.A)
}

// reads gives the values or registers that the instruction reads: A, then B.
func (in *Instr) reads() []int64 {
	form := opForms[in.Op]
	return contents(chosen([]bool{form.a, form.b}, &in.A, &in.B))
}

// writes gives the one that the instruction defines, if it does.
func (in *Instr) writes() []int64 {
	return contents(chosen([]bool{opForms[in.Op].dst}, &in.Dst))
}

func (t *Term) reads() []int64 { return contents(t.cells()) }

func chosen(keep []bool, fields ...*int64) []*int64 {
	out := []*int64{}
	for i, field := range fields {
		if keep[i] {
			out = append(out, field)
		}
	}
	return out
}

// lineFault is a fault of the text; line 0 stands for the text as a whole.
type lineFault struct {
	code int64
	line int64
}

func (e lineFault) Error() string {
	return "code " + strconv.FormatInt(e.code, 10) + " at line " + strconv.FormatInt(e.line, 10)
}

// partFault says in which part of the text its cause was met.
type partFault struct {
	part  string
	cause error
}

func (e partFault) Error() string { return e.part + ": " + e.cause.Error() }

func (e partFault) Unwrap() error { return e.cause }

func readText(text []byte) (Func, error) {
	lines, err := splitLines(text)
	if err != nil {
		return Func{}, partFault{"text", err}
	}
	values, err := readHeader(lines[0])
	if err != nil {
		return Func{}, partFault{"header", err}
	}
	r := reader{words: makeWords(), f: Func{Values: values}}
	if err := r.readBody(lines[1:]); err != nil {
		return Func{}, partFault{"body", err}
	}
	if !ValidFunc(r.f) {
		return Func{}, partFault{"function", lineFault{ErrInvalid, 0}}
	}
	return r.f, nil
}

func splitLines(text []byte) ([][]byte, error) {
	if len(text) > MaxText {
		return nil, lineFault{ErrTooLong, 0}
	}
	body, ended := bytes.CutSuffix(text, []byte{'\n'})
	if !ended {
		return nil, lineFault{ErrNoEnd, 0}
	}
	return bytes.Split(body, []byte{'\n'}), nil
}

func readHeader(line []byte) (int64, error) {
	fields, shaped := splitFields(line)
	if !shaped || len(fields) != 2 || string(fields[0]) != "func" {
		return 0, lineFault{ErrHeader, 1}
	}
	values, good := readIndex(fields[1])
	if !good {
		return 0, lineFault{ErrHeader, 1}
	}
	return values, nil
}

func splitFields(line []byte) ([][]byte, bool) {
	fields := bytes.Split(line, []byte{' '})
	for _, field := range fields {
		if len(field) == 0 || slices.ContainsFunc(field, outsideField) {
			return nil, false
		}
	}
	return fields, true
}

func outsideField(c byte) bool { return c < 33 || c > 126 }

func readIndex(field []byte) (int64, bool) { return readDigits(field, 4) }

func readConstant(field []byte) (int64, bool) {
	digits, negative := bytes.CutPrefix(field, []byte{'-'})
	x, good := readDigits(digits, 10)
	if !good || x > MaxImm {
		return 0, false
	}
	if negative {
		return -x, x != 0
	}
	return x, true
}

// readDigits reads a number without leading zeros and with at most the given
// number of digits, few enough that no sum leaves int64.
func readDigits(field []byte, most int) (int64, bool) {
	if len(field) == 0 || len(field) > most || field[0] == '0' && len(field) > 1 {
		return 0, false
	}
	x := int64(0)
	for _, c := range field {
		if c < '0' || c > '9' {
			return 0, false
		}
		x = x*10 + int64(c-'0')
	}
	return x, true
}

const (
	roleBlock = iota
	rolePhi
	roleInstr
	roleTerm
)

// operation is what a word stands for; code is the Op of an instruction or the
// Kind of an end.
type operation struct {
	role int64
	code int64
}

func makeWords() map[string]operation {
	words := map[string]operation{"block": {role: roleBlock}, "phi": {role: rolePhi}}
	for op := int64(OpConst); op <= OpOut; op++ {
		words[opForms[op].word] = operation{roleInstr, op}
	}
	for kind := int64(TermJump); kind <= TermRet; kind++ {
		words[termForms[kind].word] = operation{roleTerm, kind}
	}
	return words
}

func (o operation) takes(numbers int) bool {
	switch o.role {
	case roleBlock:
		return numbers == 0
	case rolePhi:
		return numbers >= 2
	case roleInstr:
		in := Instr{Op: o.code}
		return numbers == len(in.used())
	default:
		t := Term{Kind: o.code}
		return numbers == len(t.used())
	}
}

func (o operation) readNumbers(fields [][]byte) ([]int64, bool) {
	numbers := []int64{}
	for i, field := range fields {
		read := readIndex
		if o.role == roleInstr && o.code == OpConst && i == len(fields)-1 {
			read = readConstant
		}
		x, good := read(field)
		if !good {
			return nil, false
		}
		numbers = append(numbers, x)
	}
	return numbers, true
}

// reader holds the function as far as it is read; open says that its last block
// has no end yet.
type reader struct {
	words map[string]operation
	f     Func
	open  bool
}

func (r *reader) readBody(lines [][]byte) error {
	for i, line := range lines {
		if code := r.readLine(line); code != 0 {
			return lineFault{code, int64(i) + 2}
		}
	}
	if r.open {
		return lineFault{ErrPlace, int64(len(lines)) + 1}
	}
	return nil
}

// readLine answers 0 or the code of the first fault of the line.
func (r *reader) readLine(line []byte) int64 {
	fields, shaped := splitFields(line)
	if !shaped {
		return ErrShape
	}
	o, known := r.words[string(fields[0])]
	if !known {
		return ErrWord
	}
	if !o.takes(len(fields) - 1) {
		return ErrCount
	}
	numbers, good := o.readNumbers(fields[1:])
	if !good {
		return ErrNumber
	}
	if !r.inPlace(o) {
		return ErrPlace
	}
	r.put(o, numbers)
	return 0
}

func (r *reader) inPlace(o operation) bool {
	switch o.role {
	case roleBlock:
		return !r.open
	case rolePhi:
		return r.open && len(r.last().Instrs) == 0
	default:
		return r.open
	}
}

func (r *reader) last() *Block { return &r.f.Blocks[len(r.f.Blocks)-1] }

func (r *reader) put(o operation, numbers []int64) {
	switch o.role {
	case roleBlock:
		r.f.Blocks = append(r.f.Blocks, Block{})
		r.open = true
	case rolePhi:
		b := r.last()
		b.Phis = append(b.Phis, Phi{Dst: numbers[0], Args: numbers[1:]})
	case roleInstr:
		in := Instr{Op: o.code}
		fill(in.used(), numbers)
		b := r.last()
		b.Instrs = append(b.Instrs, in)
	case roleTerm:
		t := Term{Kind: o.code}
		fill(t.used(), numbers)
		r.last().Term = t
		r.open = false
	}
}

func fill(fields []*int64, numbers []int64) {
	for i, field := range fields {
		*field = numbers[i]
	}
}

// validSize stops counting as soon as the limit is passed: lists that share
// memory can be far longer together than the memory they need.
func validSize(f Func) bool {
	if f.Values < 0 || f.Values > MaxValues || len(f.Blocks) < 1 || len(f.Blocks) > MaxBlocks {
		return false
	}
	size := 0
	for _, b := range f.Blocks {
		size += 1 + len(b.Instrs)
		for _, p := range b.Phis {
			size += 1 + len(p.Args)
			if size > MaxSize {
				return false
			}
		}
		if size > MaxSize {
			return false
		}
	}
	return true
}

func validTerms(f Func) bool {
	for _, b := range f.Blocks {
		t := b.Term
		if !validTerm(t, f.Values, 1, int64(len(f.Blocks))) || t.Kind == TermBranch && t.To == t.Else {
			return false
		}
	}
	return true
}

func validTerm(t Term, cells int64, lowest int64, blocks int64) bool {
	if t.Kind < TermJump || t.Kind > TermRet {
		return false
	}
	form := termForms[t.Kind]
	return validField(form.a, t.A, 0, cells) && validField(form.to, t.To, lowest, blocks) &&
		validField(form.other, t.Else, lowest, blocks)
}

// validField takes a used field in low..high-1, and any other only as 0.
func validField(used bool, x int64, low int64, high int64) bool {
	if !used {
		return x == 0
	}
	return x >= low && x < high
}

func validInstrs(f Func) bool {
	for _, b := range f.Blocks {
		for _, in := range b.Instrs {
			if !validInstr(in, OpOut, f.Values) {
				return false
			}
		}
	}
	return true
}

func validInstr(in Instr, lastOp int64, cells int64) bool {
	if in.Op < OpConst || in.Op > lastOp {
		return false
	}
	form := opForms[in.Op]
	return validField(form.dst, in.Dst, 0, cells) && validField(form.a, in.A, 0, cells) &&
		validField(form.b, in.B, 0, cells) && validImm(in)
}

func validImm(in Instr) bool {
	switch in.Op {
	case OpConst:
		return in.Imm >= -MaxImm && in.Imm <= MaxImm
	case OpArg:
		return in.Imm >= 0 && in.Imm < MaxArgs
	default:
		return in.Imm == 0
	}
}

// validPhis needs ends that are valid: it follows them to count predecessors.
func validPhis(f Func) bool {
	preds := predecessors(f)
	for b, block := range f.Blocks {
		for _, p := range block.Phis {
			if !validField(true, p.Dst, 0, f.Values) || len(p.Args) == 0 || len(p.Args) != len(preds[b]) {
				return false
			}
			for _, a := range p.Args {
				if !validField(true, a, 0, f.Values) {
					return false
				}
			}
		}
	}
	return true
}

// definedOnce needs fields that are valid: it counts by them.
func definedOnce(f Func) bool {
	times := make([]int64, f.Values)
	for _, b := range f.Blocks {
		for _, p := range b.Phis {
			times[p.Dst]++
		}
		for _, in := range b.Instrs {
			if opForms[in.Op].dst {
				times[in.Dst]++
			}
		}
	}
	for _, n := range times {
		if n != 1 {
			return false
		}
	}
	return true
}

// predecessors gives for each block its predecessors, ascending.
func predecessors(f Func) [][]int64 {
	preds := make([][]int64, len(f.Blocks))
	for b, block := range f.Blocks {
		for _, t := range targets(block.Term) {
			preds[t] = append(preds[t], int64(b))
		}
	}
	return preds
}

func targets(t Term) []int64 {
	switch t.Kind {
	case TermJump:
		return []int64{t.To}
	case TermBranch:
		return []int64{t.To, t.Else}
	default:
		return nil
	}
}

// appendLine writes one line: a word and its numbers.
func appendLine(out []byte, word string, numbers ...int64) []byte {
	out = append(out, word...)
	for _, x := range numbers {
		out = append(out, ' ')
		out = strconv.AppendInt(out, x, 10)
	}
	return append(out, '\n')
}

// appendCode writes the instructions of a block and its end.
func appendCode(out []byte, instrs []Instr, t Term) []byte {
	for _, in := range instrs {
		out = appendLine(out, opForms[in.Op].word, contents(in.used())...)
	}
	return appendLine(out, termForms[t.Kind].word, contents(t.used())...)
}

func contents(fields []*int64) []int64 {
	out := []int64{}
	for _, field := range fields {
		out = append(out, *field)
	}
	return out
}

// node is one step of a run. Its only method keeps other types out, so that the
// interpreter's type switch knows them all.
type node interface {
	isNode()
}

type constNode struct {
	dst   int64
	value int64
}

type arithNode struct {
	op  int64
	dst int64
	a   int64
	b   int64
}

type heapNode struct {
	op  int64
	dst int64
	a   int64
	b   int64
}

type outNode struct {
	a int64
}

type copyNode struct {
	dst  int64
	from int64
}

type endNode struct {
	kind  int64
	a     int64
	to    edge
	other edge
}

func (constNode) isNode() {}
func (arithNode) isNode() {}
func (heapNode) isNode()  {}
func (outNode) isNode()   {}
func (copyNode) isNode()  {}
func (endNode) isNode()   {}

// edge is a way from one block to another, with what the phis there take.
type edge struct {
	to    int64
	takes []phiTake
}

type phiTake struct {
	dst  int64
	from int64
}

func makeEdge(f Func, preds [][]int64, from int64, to int64) edge {
	e := edge{to: to}
	i := slices.Index(preds[to], from)
	for _, p := range f.Blocks[to].Phis {
		e.takes = append(e.takes, phiTake{p.Dst, p.Args[i]})
	}
	return e
}

// runState is what every run has. Its cells are the values of a function or the
// registers of a machine program; at is the place in the block, and taken the
// room in which the phis of a block are read before any of them is written.
type runState struct {
	args   []int64
	heap   []int64
	trace  []int64
	fuel   int64
	steps  int64
	value  int64
	cells  []int64
	blocks [][]node
	block  int64
	at     int64
	taken  []int64
}

func validRun(args []int64, heap []int64, fuel int64) bool {
	return len(args) <= MaxArgs && len(heap) <= HeapSize && fuel >= 0 && fuel <= MaxFuel
}

func newRunState(args []int64, heap []int64, fuel int64, cells int64) runState {
	s := runState{args: args, heap: make([]int64, HeapSize), fuel: fuel, cells: make([]int64, cells)}
	copy(s.heap, heap)
	return s
}

func (s *runState) argument(i int64) int64 {
	if i >= int64(len(s.args)) {
		return 0
	}
	return s.args[i]
}

func (s *runState) outcome(code int64) Outcome {
	return Outcome{Code: code, Value: s.value, Steps: s.steps, Trace: s.trace, Heap: s.heap}
}

// instrNode makes a constant of an argument too: it is the same all the run.
func (s *runState) instrNode(in Instr) node {
	switch in.Op {
	case OpConst:
		return constNode{in.Dst, in.Imm}
	case OpArg:
		return constNode{in.Dst, s.argument(in.Imm)}
	case OpLoad, OpStore:
		return heapNode{in.Op, in.Dst, in.A, in.B}
	case OpOut:
		return outNode{in.A}
	default:
		return arithNode{in.Op, in.Dst, in.A, in.B}
	}
}

func (s *runState) run() Outcome {
	for s.steps < s.fuel {
		n := s.blocks[s.block][s.at]
		s.steps++
		s.at++
		if code := s.step(n); code != 0 {
			return s.outcome(code)
		}
	}
	return s.outcome(OutFuel)
}

// step answers the code with which the run stops here, or 0.
func (s *runState) step(n node) int64 {
	switch n := n.(type) {
	case constNode:
		s.cells[n.dst] = n.value
	case arithNode:
		if n.op == OpDiv && s.cells[n.b] == 0 {
			return OutTrap
		}
		s.cells[n.dst] = arith(n.op, s.cells[n.a], s.cells[n.b])
	case heapNode:
		cell := &s.heap[heapCell(s.cells[n.a])]
		if n.op == OpStore {
			*cell = s.cells[n.b]
		} else {
			s.cells[n.dst] = *cell
		}
	case outNode:
		s.trace = append(s.trace, s.cells[n.a])
	case copyNode:
		s.cells[n.dst] = s.cells[n.from]
	case endNode:
		return s.end(n)
	}
	return 0
}

func (s *runState) end(n endNode) int64 {
	switch {
	case n.kind == TermRet:
		s.value = s.cells[n.a]
		return OutReturn
	case n.kind == TermBranch && s.cells[n.a] == 0:
		s.follow(n.other)
	default:
		s.follow(n.to)
	}
	return 0
}

func (s *runState) follow(e edge) {
	s.taken = s.taken[:0]
	for _, t := range e.takes {
		s.taken = append(s.taken, s.cells[t.from])
	}
	for i, t := range e.takes {
		s.cells[t.dst] = s.taken[i]
	}
	s.block = e.to
	s.at = 0
}

// funcRun is a run of a function.
type funcRun struct {
	runState
	f     Func
	preds [][]int64
}

func (r *funcRun) makeNodes() {
	for b, block := range r.f.Blocks {
		nodes := []node{}
		for _, in := range block.Instrs {
			nodes = append(nodes, r.instrNode(in))
		}
		r.blocks = append(r.blocks, append(nodes, r.endNode(int64(b))))
	}
}

func (r *funcRun) endNode(b int64) node {
	t := r.f.Blocks[b].Term
	end := endNode{kind: t.Kind, a: t.A}
	if termForms[t.Kind].to {
		end.to = makeEdge(r.f, r.preds, b, t.To)
	}
	if termForms[t.Kind].other {
		end.other = makeEdge(r.f, r.preds, b, t.Else)
	}
	return end
}

// arith needs a divisor that is not 0.
func arith(op int64, a int64, b int64) int64 {
	switch op {
	case OpAdd:
		return a + b
	case OpSub:
		return a - b
	case OpMul:
		return a * b
	case OpDiv:
		return a / b
	default:
		if a < b {
			return 1
		}
		return 0
	}
}

func heapCell(x int64) int64 { return (x%HeapSize + HeapSize) % HeapSize }
