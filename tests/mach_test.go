package tests

import (
	"math"
	"slices"
	"strings"
	"testing"

	"loop.example/s0031/impl"
)

// allMachText has every word of machine programs; of its first block, instruction i has Op i+1.
const allMachText = "mach 12\nblock\nconst 0 -1000000000\narg 1 7\nadd 2 0 1\nsub 3 0 1\nmul 4 0 1\ndiv 5 0 1\nless 6 0 1\nload 7 0\nstore 0 1\nout 0\nmove 8 9\nput 10\nget 11\nbranch 6 0 0\nblock\njump 0\nblock\nret 11\nblock\njump 3\n"

// checkMach asks of all functions on machine programs whether they take this one.
func checkMach(t *testing.T, name string, m impl.Mach, want bool) {
	t.Helper()
	if impl.ValidMach(m) != want {
		t.Errorf("%s: ValidMach is %v", name, !want)
	}
	text := string(impl.EncodeMach(m))
	if want && text != machText(m) || !want && text != "" {
		t.Errorf("%s: EncodeMach is %.200q", name, text)
	}
	o := impl.RunMach(m, nil, nil, 50)
	if want && !sameOutcome(o, oracleRunMach(m, nil, nil, 50)) || !want && !sameOutcome(o, impl.Outcome{Code: impl.OutBad}) {
		t.Errorf("%s: RunMach gives %+v", name, o)
	}
}

func checkMachChange(t *testing.T, name string, want bool, change func(m *impl.Mach)) {
	t.Helper()
	m := machOf(allMachText)
	change(&m)
	checkMach(t, name, m, want)
}

func TestMachExamples(t *testing.T) {
	for _, text := range []string{
		allMachText,
		"mach 1\nblock\nret 0\n",
		"mach 64\nblock\nret 63\n",
		"mach 1\nblock\njump 0\n",
		"mach 64\nblock\nmove 63 63\nput 63\nget 63\nbranch 63 0 0\n",
		"mach 2\nblock\nconst 1 -5\nstore 1 1\nbranch 1 1 1\nblock\nbranch 0 1 0\n",
	} {
		m := machOf(text)
		checkMach(t, text, m, true)
		if got := string(impl.EncodeMach(m)); got != text {
			t.Errorf("%q gives %q", text, got)
		}
	}
	checkMach(t, "nothing", impl.Mach{}, false)
	checkMach(t, "no blocks", impl.Mach{Regs: 1}, false)
	checkMach(t, "a block without an end", impl.Mach{Regs: 1, Blocks: []impl.MBlock{{}}}, false)
}

func TestMachFields(t *testing.T) {
	fields := map[string]func(in *impl.Instr) *int64{
		"d": func(in *impl.Instr) *int64 { return &in.Dst },
		"a": func(in *impl.Instr) *int64 { return &in.A },
		"b": func(in *impl.Instr) *int64 { return &in.B },
		"i": func(in *impl.Instr) *int64 { return &in.Imm },
	}
	for i, in := range machOf(allMachText).Blocks[0].Instrs {
		if in.Op != int64(i+1) {
			t.Fatalf("instruction %d is %+v", i, in)
		}
		for letter, field := range fields {
			used := strings.Contains(fieldsOfOp(in.Op), letter)
			for _, x := range []int64{math.MinInt64, -impl.MaxImm - 1, -1, 0, 1, 7, 8, 11, 12, 64, impl.MaxImm, impl.MaxImm + 1, math.MaxInt64} {
				want := x == 0 || used && x >= 0 && x < 12
				if letter == "i" && in.Op == impl.OpConst {
					want = x >= -impl.MaxImm && x <= impl.MaxImm
				}
				if letter == "i" && in.Op == impl.OpArg {
					want = x >= 0 && x < impl.MaxArgs
				}
				checkMachChange(t, machWords[i]+" with another "+letter, want, func(m *impl.Mach) { *field(&m.Blocks[0].Instrs[i]) = x })
			}
		}
	}
	for _, op := range []int64{math.MinInt64, -1, 0, 14, 15, math.MaxInt64} {
		for i := range 13 {
			checkMachChange(t, "an Op that is none", false, func(m *impl.Mach) { m.Blocks[0].Instrs[i].Op = op })
		}
		checkMachChange(t, "an Op that is none, and all else 0", false, func(m *impl.Mach) { m.Blocks[2].Instrs = []impl.Instr{{Op: op}} })
	}
}

func TestMachTerms(t *testing.T) {
	type term = impl.Term
	for _, c := range []struct {
		term term
		want bool
	}{
		{term{Kind: 1}, true}, {term{Kind: 1, To: 3}, true}, {term{Kind: 1, To: 4}, false}, {term{Kind: 1, To: -1}, false},
		{term{Kind: 1, To: math.MaxInt64}, false}, {term{Kind: 1, To: math.MinInt64}, false},
		{term{Kind: 1, To: 1, A: 1}, false}, {term{Kind: 1, To: 1, Else: 1}, false}, {term{Kind: 1, A: -1}, false},
		{term{Kind: 2}, true}, {term{Kind: 2, A: 11, To: 3, Else: 3}, true}, {term{Kind: 2, A: 11, To: 0, Else: 3}, true},
		{term{Kind: 2, A: 12, To: 3, Else: 3}, false}, {term{Kind: 2, A: -1}, false}, {term{Kind: 2, To: 4}, false}, {term{Kind: 2, Else: 4}, false},
		{term{Kind: 2, To: -1}, false}, {term{Kind: 2, Else: -1}, false}, {term{Kind: 2, To: 4, Else: 4}, false},
		{term{Kind: 3}, true}, {term{Kind: 3, A: 11}, true}, {term{Kind: 3, A: 12}, false}, {term{Kind: 3, A: -1}, false},
		{term{Kind: 3, To: 1}, false}, {term{Kind: 3, Else: 1}, false},
		{term{}, false}, {term{Kind: 4}, false}, {term{Kind: -1}, false}, {term{Kind: math.MaxInt64}, false}, {term{Kind: math.MinInt64}, false},
	} {
		for b := range 4 {
			checkMachChange(t, "an end", c.want, func(m *impl.Mach) { m.Blocks[b].Term = c.term })
		}
	}
}

func TestMachRegisters(t *testing.T) {
	for _, regs := range []int64{12, 13, 63, 64} {
		checkMachChange(t, "more registers", true, func(m *impl.Mach) { m.Regs = regs })
	}
	for _, regs := range []int64{math.MinInt64, -1, 0, 1, 11, 65, 66, 1000, math.MaxInt64} {
		checkMachChange(t, "too many registers, or too few for the instructions", false, func(m *impl.Mach) { m.Regs = regs })
		if regs != 1 && regs != 11 {
			checkMach(t, "too many registers, or none", impl.Mach{Regs: regs, Blocks: []impl.MBlock{{Term: impl.Term{Kind: impl.TermJump}}}}, false)
		}
	}
}

// sizedMach: so many blocks, each but the last a jump to the next, and so many instructions in the last.
func sizedMach(blocks int, instrs int) impl.Mach {
	m := impl.Mach{Regs: 1, Blocks: make([]impl.MBlock, blocks)}
	for b := range m.Blocks {
		m.Blocks[b].Term = impl.Term{Kind: impl.TermJump, To: int64(min(b+1, blocks-1))}
	}
	m.Blocks[blocks-1].Instrs = slices.Repeat([]impl.Instr{{Op: impl.OpOut}}, instrs)
	return m
}

func TestMachLimits(t *testing.T) {
	for _, c := range []struct {
		blocks int
		instrs int
		want   bool
	}{
		{impl.MaxMachBlocks, 0, true}, {impl.MaxMachBlocks + 1, 0, false}, {impl.MaxMachBlocks, impl.MaxMachSize - impl.MaxMachBlocks, true},
		{impl.MaxMachBlocks, impl.MaxMachSize - impl.MaxMachBlocks + 1, false}, {impl.MaxMachBlocks + 1, impl.MaxMachSize - impl.MaxMachBlocks - 1, false},
		{1, impl.MaxMachSize - 1, true}, {1, impl.MaxMachSize, false}, {1, 10 * impl.MaxMachSize, false}, {2, impl.MaxMachSize - 2, true}, {2, impl.MaxMachSize - 1, false},
	} {
		checkMach(t, "a limit", sizedMach(c.blocks, c.instrs), c.want)
	}
	m := sizedMach(100, 0)
	for b := range m.Blocks {
		m.Blocks[b].Instrs = slices.Repeat([]impl.Instr{{Op: impl.OpPut}}, 199)
	}
	checkMach(t, "the size over many blocks", m, true)
	m.Blocks[50].Instrs = append(m.Blocks[50].Instrs, impl.Instr{Op: impl.OpPut})
	checkMach(t, "the size over many blocks, and one more", m, false)
}

// Lists that share memory are far longer together than what they need; counting them must end.
func TestMachSharedLists(t *testing.T) {
	list := make([]impl.Instr, 1000000)
	m := sizedMach(impl.MaxMachBlocks, 0)
	for b := range m.Blocks {
		m.Blocks[b].Instrs = list
	}
	checkMach(t, "one long list for all blocks", m, false)
}

// spoilMach changes one field of a valid machine program to any number near the edges.
func spoilMach(d *dice, m *impl.Mach) {
	numbers := []int64{-1, 0, 1, 2, 3, m.Regs - 1, m.Regs, m.Regs + 1, int64(len(m.Blocks)), 13, 14, 64, 65}
	x := numbers[d.roll(len(numbers))]
	b := &m.Blocks[d.roll(len(m.Blocks))]
	fields := []*int64{&m.Regs, &b.Term.Kind, &b.Term.A, &b.Term.To, &b.Term.Else}
	if len(b.Instrs) > 0 && d.roll(3) > 0 {
		in := &b.Instrs[d.roll(len(b.Instrs))]
		fields = []*int64{&in.Op, &in.Dst, &in.A, &in.B, &in.Imm}
	}
	*fields[d.roll(len(fields))] = x
}

func TestMachSpoiled(t *testing.T) {
	d := dice(61)
	met := map[bool]int{}
	for range 10000 {
		m := rollMach(&d)
		spoilMach(&d, &m)
		want := oracleValidMach(m)
		met[want]++
		before := cloneMach(m)
		checkMach(t, "one field changed", m, want)
		if !sameMach(m, before) {
			t.Fatal("the program is changed")
		}
		if t.Failed() {
			t.Fatalf("%+v", m)
		}
	}
	if met[true] < 1000 || met[false] < 1000 {
		t.Errorf("met %v", met)
	}
}

func TestEncodeMachMemory(t *testing.T) {
	m := machOf(allMachText)
	text := impl.EncodeMach(m)
	for i := range text {
		text[i] = 'x'
	}
	if string(impl.EncodeMach(m)) != allMachText || !sameMach(m, machOf(allMachText)) {
		t.Error("the answer is not new memory")
	}
}

func TestRunMachExamples(t *testing.T) {
	cases := []struct {
		name  string
		text  string
		args  []int64
		value int64
		steps int64
		trace []int64
	}{
		{"all is 0 at the start", "mach 2\nblock\nget 0\nout 0\nout 1\nret 1\n", nil, 0, 4, []int64{0, 0}},
		{"a move", "mach 2\nblock\narg 1 0\nmove 0 1\nout 1\nret 0\n", []int64{7}, 7, 4, []int64{7}},
		{"put and get", "mach 2\nblock\narg 0 0\nput 0\nconst 0 3\nget 1\nout 0\nret 1\n", []int64{7}, 7, 6, []int64{3}},
		{"the scratch stays after get", "mach 3\nblock\narg 0 0\nput 0\nget 1\nconst 1 2\nget 2\nret 2\n", []int64{7}, 7, 6, nil},
		{"the scratch is no register", "mach 64\nblock\narg 63 0\narg 62 1\nput 62\nout 63\nget 0\nout 63\nret 0\n", []int64{7, 8}, 8, 7, []int64{7, 7}},
		{"the scratch of one register", "mach 1\nblock\narg 0 0\nput 0\narg 0 1\nout 0\nget 0\nret 0\n", []int64{7, 8}, 7, 6, []int64{8}},
		{"a swap", "mach 2\nblock\narg 0 0\narg 1 1\nput 0\nmove 0 1\nget 1\nout 0\nret 1\n", []int64{7, 8}, 7, 7, []int64{8}},
		{"an instruction that reads and writes a register", "mach 1\nblock\narg 0 0\nadd 0 0 0\nmul 0 0 0\nless 0 0 0\nret 0\n", []int64{7}, 0, 5, nil},
		{"a load into its own address", "mach 1\nblock\nconst 0 40\nstore 0 0\nload 0 0\nret 0\n", nil, 40, 4, nil},
		{"the scratch goes along from block to block", "mach 2\nblock\narg 0 0\nput 0\njump 1\nblock\nget 1\nbranch 1 2 2\nblock\nret 1\n", []int64{7}, 7, 6, nil},
		{"a branch with both targets equal, not 0", "mach 1\nblock\narg 0 0\nbranch 0 1 1\nblock\nret 0\n", []int64{1}, 1, 3, nil},
		{"a branch with both targets equal, 0", "mach 1\nblock\narg 0 0\nbranch 0 1 1\nblock\nret 0\n", []int64{0}, 0, 3, nil},
		{"back to block 0", "mach 2\nblock\nout 0\nbranch 0 1 2\nblock\nret 0\nblock\nconst 0 5\njump 0\n", nil, 5, 7, []int64{0, 5}},
		{"a branch to block 0", "mach 2\nblock\nget 1\nconst 0 1\nput 0\nout 1\nbranch 1 1 0\nblock\nret 1\n", nil, 1, 11, []int64{0, 1}},
	}
	for _, c := range cases {
		o := impl.RunMach(machOf(c.text), c.args, nil, c.steps)
		if o.Code != impl.OutReturn || o.Value != c.value || o.Steps != c.steps || !slices.Equal(o.Trace, c.trace) || len(o.Heap) != impl.HeapSize {
			t.Errorf("%s: %+v", c.name, o)
		}
		o = impl.RunMach(machOf(c.text), c.args, nil, c.steps-1)
		if o.Code != impl.OutFuel || o.Value != 0 || o.Steps != c.steps-1 {
			t.Errorf("%s, with one step less: %+v", c.name, o)
		}
	}
}

// A run with each fuel, from none to more than it needs; copies are steps as all else.
func TestRunMachFuel(t *testing.T) {
	m := impl.Lower(mustParse(t, swapText), []int64{0, 1, 0, 1, 2}, 3)
	for fuel := range int64(20) {
		want := impl.Outcome{Code: impl.OutFuel, Steps: fuel, Heap: make([]int64, impl.HeapSize), Trace: []int64{1, 5}[:min(max(fuel-11, 0), 2)]}
		if fuel >= 14 {
			want.Code, want.Value, want.Steps = impl.OutReturn, 1, 14
		}
		if o := impl.RunMach(m, []int64{5}, nil, fuel); !sameOutcome(o, want) {
			t.Errorf("fuel %d: %+v", fuel, o)
		}
	}
	trap := machOf("mach 1\nblock\nput 0\ndiv 0 0 0\nret 0\n")
	for fuel, want := range []impl.Outcome{{Code: impl.OutFuel}, {Code: impl.OutFuel, Steps: 1}, {Code: impl.OutTrap, Steps: 2}, {Code: impl.OutTrap, Steps: 2}} {
		want.Heap = make([]int64, impl.HeapSize)
		if o := impl.RunMach(trap, nil, nil, int64(fuel)); !sameOutcome(o, want) {
			t.Errorf("a trap with fuel %d: %+v", fuel, o)
		}
	}
}

func TestRunMachRefused(t *testing.T) {
	m := machOf("mach 1\nblock\narg 0 7\nput 0\nret 0\n")
	for _, o := range []impl.Outcome{
		impl.RunMach(impl.Mach{}, nil, nil, 10),
		impl.RunMach(m, make([]int64, impl.MaxArgs+1), nil, 10),
		impl.RunMach(m, nil, make([]int64, impl.HeapSize+1), 10),
		impl.RunMach(m, nil, nil, -1),
		impl.RunMach(m, nil, nil, math.MinInt64),
		impl.RunMach(m, nil, nil, impl.MaxFuel+1),
		impl.RunMach(m, nil, nil, math.MaxInt64),
	} {
		if !sameOutcome(o, impl.Outcome{Code: impl.OutBad}) {
			t.Errorf("%+v", o)
		}
	}
	args := []int64{0, 0, 0, 0, 0, 0, 0, 9}
	heap := slices.Repeat([]int64{4}, impl.HeapSize)
	if o := impl.RunMach(m, args, heap, impl.MaxFuel); !sameOutcome(o, impl.Outcome{Code: impl.OutReturn, Value: 9, Steps: 3, Heap: heap}) {
		t.Errorf("all limits met: %+v", o)
	}
	if o := impl.RunMach(m, nil, nil, 0); !sameOutcome(o, impl.Outcome{Code: impl.OutFuel, Heap: make([]int64, impl.HeapSize)}) {
		t.Errorf("no fuel: %+v", o)
	}
}

func TestRunMachAtTheLimits(t *testing.T) {
	for name, m := range map[string]impl.Mach{
		"blocks":    sizedMach(impl.MaxMachBlocks, 0),
		"size":      sizedMach(1, impl.MaxMachSize-1),
		"both":      sizedMach(impl.MaxMachBlocks, impl.MaxMachSize-impl.MaxMachBlocks),
		"registers": machOf("mach 64\nblock\nmove 63 0\nput 63\nget 62\njump 0\n"),
	} {
		if o := impl.RunMach(m, nil, nil, impl.MaxFuel); !sameOutcome(o, oracleRunMach(m, nil, nil, impl.MaxFuel)) || o.Steps != impl.MaxFuel {
			t.Errorf("%s: code %d steps %d", name, o.Code, o.Steps)
		}
	}
}

func TestRunMachAgainstOracle(t *testing.T) {
	d := dice(62)
	seen := map[int64]int{}
	for range 20000 {
		m := rollMach(&d)
		args, heap, fuel := rollRun(&d)
		keptArgs, keptHeap, keptMach := slices.Clone(args), slices.Clone(heap), cloneMach(m)
		o := impl.RunMach(m, args, heap, fuel)
		want := oracleRunMach(m, args, heap, fuel)
		seen[want.Code]++
		if !sameOutcome(o, want) {
			t.Fatalf("%s args %v heap %v fuel %d: %+v, want %+v", machText(m), args, heap, fuel, o, want)
		}
		if !slices.Equal(args, keptArgs) || !slices.Equal(heap, keptHeap) || !sameMach(m, keptMach) {
			t.Fatal("an argument was changed")
		}
	}
	for _, code := range []int64{impl.OutReturn, impl.OutTrap, impl.OutFuel} {
		if seen[code] < 500 {
			t.Errorf("code %d came only %d times", code, seen[code])
		}
	}
}

func TestRunMachMemory(t *testing.T) {
	m := machOf("mach 1\nblock\nconst 0 1\nstore 0 0\nout 0\nret 0\n")
	heap := make([]int64, impl.HeapSize, 100)
	o := impl.RunMach(m, nil, heap, 10)
	checkOwn(t, "RunMach", o.Trace, o.Heap)
	again := impl.RunMach(m, nil, heap, 10)
	if slices.Max(heap) != 0 || slices.Min(heap) != 0 || again.Heap[5] != 0 || again.Heap[1] != 1 || again.Trace[0] != 1 {
		t.Error("the outcome is not new memory")
	}
}
