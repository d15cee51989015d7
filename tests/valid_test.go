package tests

import (
	"math"
	"testing"

	"loop.example/s0031/impl"
)

// checkChange changes a copy of a valid function, and asks whether it is still valid.
func checkChange(t *testing.T, text string, name string, want bool, change func(f *impl.Func)) {
	t.Helper()
	f := mustParse(t, text)
	change(&f)
	if impl.ValidFunc(f) != want {
		t.Errorf("%s: ValidFunc is %v", name, !want)
	}
	if got := len(impl.EncodeFunc(f)) > 0; got != want {
		t.Errorf("%s: EncodeFunc is not empty: %v", name, got)
	}
	if got := impl.RunFunc(f, nil, nil, 1).Code != impl.OutBad; got != want {
		t.Errorf("%s: RunFunc runs: %v", name, got)
	}
}

func TestValidExamples(t *testing.T) {
	for _, text := range []string{sumText, allText} {
		checkChange(t, text, "as it is", true, func(f *impl.Func) {})
	}
	if impl.ValidFunc(impl.Func{}) {
		t.Error("a function without blocks")
	}
	if impl.ValidFunc(impl.Func{Blocks: []impl.Block{{}}}) {
		t.Error("a block without an end")
	}
}

// The fields that are used take values only, the others 0 only. Of allText, instruction i has Op i+1.
func TestValidFields(t *testing.T) {
	for i := range 10 {
		used := fieldsOfOp(int64(i + 1))
		for letter, field := range map[string]func(in *impl.Instr) *int64{
			"d": func(in *impl.Instr) *int64 { return &in.Dst },
			"a": func(in *impl.Instr) *int64 { return &in.A },
			"b": func(in *impl.Instr) *int64 { return &in.B },
			"i": func(in *impl.Instr) *int64 { return &in.Imm },
		} {
			for _, x := range []int64{-1, 12, math.MinInt64, math.MaxInt64} {
				if i == 0 && letter == "i" && x > -20 && x < 20 {
					continue
				}
				checkChange(t, allText, "a wrong field "+letter, false, func(f *impl.Func) { *field(&f.Blocks[0].Instrs[i]) = x })
			}
			isUsed := false
			for _, u := range used {
				isUsed = isUsed || string(u) == letter
			}
			if !isUsed {
				checkChange(t, allText, "a field not used "+letter, false, func(f *impl.Func) { *field(&f.Blocks[0].Instrs[i]) = 1 })
			} else if letter == "a" || letter == "b" {
				checkChange(t, allText, "the last value "+letter, true, func(f *impl.Func) { *field(&f.Blocks[0].Instrs[i]) = 11 })
			}
		}
	}
}

func TestValidOps(t *testing.T) {
	for _, op := range []int64{0, 11, 12, 13, -1, math.MinInt64, math.MaxInt64} {
		checkChange(t, allText, "an Op that is none", false, func(f *impl.Func) { f.Blocks[0].Instrs[9].Op = op })
	}
	for _, c := range []struct {
		op   int
		imm  int64
		want bool
	}{
		{0, impl.MaxImm, true}, {0, impl.MaxImm + 1, false}, {0, -impl.MaxImm, true}, {0, -impl.MaxImm - 1, false}, {0, 0, true},
		{0, math.MinInt64, false}, {0, math.MaxInt64, false},
		{1, 0, true}, {1, -1, false}, {1, impl.MaxArgs - 1, true}, {1, impl.MaxArgs, false},
	} {
		checkChange(t, allText, "Imm", c.want, func(f *impl.Func) { f.Blocks[0].Instrs[c.op].Imm = c.imm })
	}
}

func TestValidTerms(t *testing.T) {
	type term = impl.Term
	for _, c := range []struct {
		block int
		term  term
		want  bool
	}{
		{0, term{Kind: 2, A: 11, To: 1, Else: 2}, true},
		{0, term{Kind: 2, A: 6, To: 2, Else: 1}, true},
		{0, term{Kind: 2, A: 12, To: 1, Else: 2}, false},
		{0, term{Kind: 2, A: -1, To: 1, Else: 2}, false},
		{0, term{Kind: 2, A: 6, To: 0, Else: 2}, false},
		{0, term{Kind: 2, A: 6, To: 1, Else: 0}, false},
		{0, term{Kind: 2, A: 6, To: 3, Else: 2}, false},
		{0, term{Kind: 2, A: 6, To: 1, Else: 3}, false},
		{0, term{Kind: 2, A: 6, To: -1, Else: 2}, false},
		{0, term{Kind: 2, A: 6, To: 1, Else: math.MinInt64}, false},
		{0, term{Kind: 2, A: 6, To: math.MaxInt64, Else: 2}, false},
		{0, term{Kind: 2, A: 6, To: 1, Else: 1}, false},
		{1, term{Kind: 1, To: 1}, true},
		{1, term{Kind: 1, To: 0}, false},
		{1, term{Kind: 1, To: 3}, false},
		{1, term{Kind: 1, To: -1}, false},
		{1, term{Kind: 1, A: 1, To: 1}, false},
		{1, term{Kind: 1, To: 1, Else: 1}, false},
		{1, term{Kind: 1, To: 1, Else: 2}, false},
		{2, term{Kind: 3, A: 0}, true},
		{2, term{Kind: 3, A: 12}, false},
		{2, term{Kind: 3, A: -1}, false},
		{2, term{Kind: 3, A: 11, To: 1}, false},
		{2, term{Kind: 3, A: 11, Else: 1}, false},
		{2, term{}, false},
		{2, term{Kind: 4, A: 11}, false},
		{2, term{Kind: -1, A: 11}, false},
		{2, term{Kind: math.MaxInt64, A: 11}, false},
	} {
		checkChange(t, allText, "an end", c.want, func(f *impl.Func) { f.Blocks[c.block].Term = c.term })
	}
}

func TestValidPhis(t *testing.T) {
	phi := func(f *impl.Func) *impl.Phi { return &f.Blocks[1].Phis[0] }
	checkChange(t, sumText, "another order", true, func(f *impl.Func) { phi(f).Args = []int64{7, 0} })
	checkChange(t, sumText, "too few", false, func(f *impl.Func) { phi(f).Args = []int64{1} })
	checkChange(t, sumText, "too many", false, func(f *impl.Func) { phi(f).Args = []int64{1, 6, 6} })
	checkChange(t, sumText, "none", false, func(f *impl.Func) { phi(f).Args = nil })
	checkChange(t, sumText, "no value", false, func(f *impl.Func) { phi(f).Args[1] = 8 })
	checkChange(t, sumText, "below 0", false, func(f *impl.Func) { phi(f).Args[0] = -1 })
	checkChange(t, sumText, "Dst no value", false, func(f *impl.Func) { phi(f).Dst = 8 })
	checkChange(t, sumText, "Dst below 0", false, func(f *impl.Func) { phi(f).Dst = -1 })
	checkChange(t, sumText, "Dst far off", false, func(f *impl.Func) { phi(f).Dst = math.MaxInt64 })
	checkChange(t, sumText, "Dst of another phi", false, func(f *impl.Func) { phi(f).Dst = 4 })
	checkChange(t, sumText, "Dst of an instruction", false, func(f *impl.Func) { phi(f).Dst = 0 })
	checkChange(t, sumText, "a predecessor less", false, func(f *impl.Func) { f.Blocks[2].Term.To = 3 })
	checkChange(t, sumText, "one predecessor in place of another", true, func(f *impl.Func) {
		f.Blocks[2].Term.To = 3
		f.Blocks[3].Term = impl.Term{Kind: impl.TermJump, To: 1}
	})
	for _, args := range [][]int64{nil, {}, {0}} {
		checkChange(t, "func 1\nblock\nconst 0 0\nret 0\n", "in block 0", false, func(f *impl.Func) {
			f.Values = 2
			f.Blocks[0].Phis = []impl.Phi{{Dst: 1, Args: args}}
		})
		checkChange(t, "func 1\nblock\nconst 0 0\nret 0\nblock\nret 0\n", "in a block without predecessors", false, func(f *impl.Func) {
			f.Values = 2
			f.Blocks[1].Phis = []impl.Phi{{Dst: 1, Args: args}}
		})
	}
}

func TestValidDefinitions(t *testing.T) {
	for _, values := range []int64{-1, 0, 7, 9, impl.MaxValues, math.MinInt64, math.MaxInt64} {
		checkChange(t, sumText, "the number of values", false, func(f *impl.Func) { f.Values = values })
	}
	checkChange(t, sumText, "twice in a block", false, func(f *impl.Func) { f.Blocks[0].Instrs[1].Dst = 2 })
	checkChange(t, sumText, "twice in two blocks", false, func(f *impl.Func) { f.Blocks[2].Instrs[1].Dst = 0 })
	checkChange(t, sumText, "never", false, func(f *impl.Func) { f.Blocks[2].Instrs = f.Blocks[2].Instrs[:1] })
	checkChange(t, sumText, "a store and an output define nothing", true, func(f *impl.Func) {
		f.Blocks[3].Instrs = append(f.Blocks[3].Instrs, impl.Instr{Op: impl.OpStore}, impl.Instr{Op: impl.OpOut})
	})
}

func constants(n int64) impl.Block {
	b := impl.Block{Term: impl.Term{Kind: impl.TermRet}}
	for v := range n {
		b.Instrs = append(b.Instrs, impl.Instr{Op: impl.OpConst, Dst: v})
	}
	return b
}

func TestValidLimits(t *testing.T) {
	for extra := range int64(2) {
		want := extra == 0
		f := impl.Func{Values: impl.MaxValues + extra, Blocks: []impl.Block{constants(impl.MaxValues + extra)}}
		if impl.ValidFunc(f) != want {
			t.Errorf("%d values", f.Values)
		}
		f = impl.Func{Values: 1, Blocks: []impl.Block{constants(1)}}
		for range impl.MaxBlocks - 1 + extra {
			f.Blocks = append(f.Blocks, impl.Block{Term: impl.Term{Kind: impl.TermRet}})
		}
		if impl.ValidFunc(f) != want {
			t.Errorf("%d blocks", len(f.Blocks))
		}
	}
	if impl.ValidFunc(impl.Func{Values: 0}) {
		t.Error("no blocks")
	}
}

// sized has 10 blocks that jump to block 1, and phis with 10 arguments there.
func sized(phis int64, outs int64) impl.Func {
	f := impl.Func{Values: phis, Blocks: make([]impl.Block, 10)}
	for b := range f.Blocks {
		f.Blocks[b].Term = impl.Term{Kind: impl.TermJump, To: 1}
	}
	for v := range phis {
		f.Blocks[1].Phis = append(f.Blocks[1].Phis, impl.Phi{Dst: v, Args: make([]int64, 10)})
	}
	for range outs {
		f.Blocks[9].Instrs = append(f.Blocks[9].Instrs, impl.Instr{Op: impl.OpOut})
	}
	return f
}

func TestValidSize(t *testing.T) {
	for _, c := range []struct {
		phis, outs int64
	}{{362, 8}, {1, 3979}, {200, 1790}} {
		if size := 10 + c.phis*11 + c.outs; size != impl.MaxSize {
			t.Fatalf("the test's function has size %d", size)
		}
		if !impl.ValidFunc(sized(c.phis, c.outs)) {
			t.Errorf("size met exactly: %+v", c)
		}
		if impl.ValidFunc(sized(c.phis, c.outs+1)) {
			t.Errorf("size passed by one: %+v", c)
		}
	}
	if impl.ValidFunc(sized(363, 0)) {
		t.Error("size passed by the arguments of a phi")
	}
	f := sized(362, 8)
	f.Blocks = append(f.Blocks, impl.Block{Term: impl.Term{Kind: impl.TermRet}})
	if impl.ValidFunc(f) {
		t.Error("size passed by a block")
	}
}

// Lists that share memory make a function of a size that could never be counted to its end.
func TestValidHugeSize(t *testing.T) {
	args := make([]int64, 1<<20)
	phis := make([]impl.Phi, 1<<20)
	for i := range phis {
		phis[i].Args = args
	}
	f := impl.Func{Values: 1, Blocks: make([]impl.Block, impl.MaxBlocks)}
	for b := range f.Blocks {
		f.Blocks[b] = impl.Block{Phis: phis, Instrs: make([]impl.Instr, 1), Term: impl.Term{Kind: impl.TermRet}}
	}
	if impl.ValidFunc(f) || len(impl.EncodeFunc(f)) != 0 || impl.RunFunc(f, nil, nil, 0).Code != impl.OutBad {
		t.Error("a function far over the size")
	}
}

// Functions that are a few changes away from valid ones, against the oracle.
func TestValidChangedFunctions(t *testing.T) {
	d := dice(3)
	seen := [2]int{}
	for range 30000 {
		f := rollFunc(&d)
		for range d.roll(3) {
			changeFunc(&d, &f)
		}
		want := oracleValid(f)
		if want {
			seen[1]++
		} else {
			seen[0]++
		}
		if impl.ValidFunc(f) != want {
			t.Fatalf("ValidFunc is %v for %+v", !want, f)
		}
	}
	if min(seen[0], seen[1]) < 1000 {
		t.Errorf("not valid and valid: %v", seen)
	}
}

func changeFunc(d *dice, f *impl.Func) {
	x := []int64{-1, 0, 1, 2, f.Values - 1, f.Values, int64(len(f.Blocks)) - 1, int64(len(f.Blocks)), 7, 8, 10, 11, math.MinInt64, math.MaxInt64}[d.roll(14)]
	b := &f.Blocks[d.roll(len(f.Blocks))]
	fields := []*int64{&f.Values, &b.Term.Kind, &b.Term.A, &b.Term.To, &b.Term.Else}
	for i := range b.Instrs {
		in := &b.Instrs[i]
		fields = append(fields, &in.Op, &in.Dst, &in.A, &in.B, &in.Imm)
	}
	for i := range b.Phis {
		p := &b.Phis[i]
		fields = append(fields, &p.Dst)
		if len(p.Args) > 0 {
			fields = append(fields, &p.Args[d.roll(len(p.Args))])
		}
		if d.roll(10) == 0 {
			p.Args = append(p.Args, 0)
		}
		if len(p.Args) > 0 && d.roll(10) == 0 {
			p.Args = p.Args[1:]
		}
	}
	*fields[d.roll(len(fields))] = x
}
