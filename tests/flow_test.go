package tests

import (
	"math"
	"slices"
	"testing"

	"loop.example/s0031/impl"
)

// diamondText: 0 branches to 1 and 2, both go to 3; 3 goes back to 1 or on to 4.
const diamondText = "func 1\nblock\nconst 0 1\nbranch 0 1 2\nblock\njump 3\nblock\njump 3\nblock\nbranch 0 1 4\nblock\nret 0\n"

func sameSets(got []impl.Set, want [][]int64) bool {
	return slices.EqualFunc(got, want, func(g impl.Set, w []int64) bool { return slices.Equal(g.V, w) })
}

// checkFlow holds Analyze and Dominates against the dominance that the paths of f give.
func checkFlow(t *testing.T, f impl.Func, d dominance) {
	t.Helper()
	n := len(f.Blocks)
	got := impl.Analyze(f)
	preds := [][]int64{}
	idom := []int64{}
	for b := range n {
		preds = append(preds, oraclePreds(f, int64(b)))
		idom = append(idom, oracleIdom(d, b))
	}
	reach := oracleReach(f, -1)
	order := oracleOrder(idom, reach)
	if !sameSets(got.Preds, preds) || !slices.Equal(got.Reach, reach) || !slices.Equal(got.Idom, idom) || !slices.Equal(got.Order, order) {
		t.Fatalf("%s\n%+v, want %v %v %v %v", impl.EncodeFunc(f), got, preds, reach, idom, order)
	}
	for a := -1; a <= n; a++ {
		for b := -1; b <= n; b++ {
			want := a >= 0 && a < n && b >= 0 && b < n && d.of(a, b)
			if impl.Dominates(f, int64(a), int64(b)) != want {
				t.Fatalf("%s\nDominates %d %d is not %v", impl.EncodeFunc(f), a, b, want)
			}
		}
	}
}

func TestFlowExamples(t *testing.T) {
	cases := []struct {
		name  string
		text  string
		idom  []int64
		order []int64
	}{
		{"the sum", sumText, []int64{-1, 0, 1, 1}, []int64{0, 1, 2, 3}},
		{"one block alone", "func 1\nblock\nconst 0 1\nret 0\n", []int64{-1}, []int64{0}},
		{"one block without values that jumps to itself", "func 0\nblock\njump 1\nblock\njump 1\n", []int64{-1, 0}, []int64{0, 1}},
		{"reached by both targets of branches", diamondText, []int64{-1, 0, 0, 0, 3}, []int64{0, 1, 2, 3, 4}},
		{"a greater number above a smaller", "func 1\nblock\nconst 0 1\njump 3\nblock\nret 0\nblock\njump 1\nblock\nbranch 0 2 4\nblock\nret 0\n", []int64{-1, 2, 3, 0, 3}, []int64{0, 3, 2, 1, 4}},
		{"all that is below a block comes ahead of the next", "func 1\nblock\nconst 0 1\nbranch 0 2 1\nblock\nbranch 0 4 3\nblock\nret 0\nblock\nret 0\nblock\nret 0\n", []int64{-1, 0, 0, 1, 1}, []int64{0, 1, 3, 4, 2}},
		{"a loop with two ways in", "func 1\nblock\nconst 0 1\nbranch 0 1 2\nblock\nbranch 0 2 3\nblock\njump 1\nblock\nret 0\n", []int64{-1, 0, 0, 1}, []int64{0, 1, 3, 2}},
		{"not reachable", "func 1\nblock\nconst 0 1\njump 2\nblock\nbranch 0 2 1\nblock\nret 0\nblock\njump 1\n", []int64{-1, -1, 0, -1}, []int64{0, 2}},
	}
	for _, c := range cases {
		f := mustParse(t, c.text)
		got := impl.Analyze(f)
		if !slices.Equal(got.Idom, c.idom) || !slices.Equal(got.Order, c.order) {
			t.Errorf("%s: %+v", c.name, got)
		}
		checkFlow(t, f, dominanceByPaths(f))
	}
}

// Blocks that are not reachable are predecessors all the same, but dominate nothing, not even themselves.
func TestFlowNotReachable(t *testing.T) {
	f := mustParse(t, "func 1\nblock\nconst 0 1\njump 2\nblock\nbranch 0 2 1\nblock\nret 0\nblock\njump 1\n")
	got := impl.Analyze(f)
	if !sameSets(got.Preds, [][]int64{{}, {1, 3}, {0, 1}, {}}) || !slices.Equal(got.Reach, []bool{true, false, true, false}) {
		t.Errorf("%+v", got)
	}
	for _, c := range [][2]int64{{1, 1}, {3, 3}, {3, 1}, {0, 1}, {1, 2}, {0, 3}} {
		if impl.Dominates(f, c[0], c[1]) {
			t.Errorf("%v", c)
		}
	}
	for _, c := range [][2]int64{{0, 0}, {0, 2}, {2, 2}} {
		if !impl.Dominates(f, c[0], c[1]) {
			t.Errorf("%v", c)
		}
	}
}

// allEnds: each end that a block of a function with n blocks and one value may have.
func allEnds(n int64) []impl.Term {
	ends := []impl.Term{{Kind: impl.TermRet}}
	for to := int64(1); to < n; to++ {
		ends = append(ends, impl.Term{Kind: impl.TermJump, To: to})
		for other := int64(1); other < n; other++ {
			if other != to {
				ends = append(ends, impl.Term{Kind: impl.TermBranch, To: to, Else: other})
			}
		}
	}
	return ends
}

// Every function of up to four blocks, as far as its ways go.
func TestFlowAllSmall(t *testing.T) {
	for n := 1; n <= 4; n++ {
		ends := allEnds(int64(n))
		eachList(n, 0, int64(len(ends)-1), func(pick []int64) {
			f := impl.Func{Values: 1, Blocks: make([]impl.Block, n)}
			f.Blocks[0].Instrs = []impl.Instr{{Op: impl.OpArg}}
			for b := range f.Blocks {
				f.Blocks[b].Term = ends[pick[b]]
			}
			d := dominanceByPaths(f)
			checkFlow(t, f, d)
			if got, want := impl.Verdict(f), oracleVerdict(f, d); got != want {
				t.Fatalf("%s\nverdict %d, want %d", impl.EncodeFunc(f), got, want)
			}
		})
	}
}

func TestFlowByPaths(t *testing.T) {
	d := dice(21)
	for range 1500 {
		f := rollFunc(&d)
		checkFlow(t, f, dominanceByPaths(f))
		f = rollStrict(&d, 1+d.roll(9))
		checkFlow(t, f, dominanceByPaths(f))
	}
}

func TestFlowManyBlocks(t *testing.T) {
	d := dice(22)
	for range 25 {
		f := impl.Func{Values: 1, Blocks: rollEnds(&d, 20+d.roll(60))}
		f.Blocks[0].Instrs = []impl.Instr{{Op: impl.OpArg}}
		if d.roll(2) == 0 {
			f.Blocks[d.roll(len(f.Blocks))].Term = impl.Term{Kind: impl.TermRet}
		}
		checkFlow(t, f, dominanceByCuts(f))
	}
}

// chain: n blocks one after another; each branches on value 0 to the next and, from block back on, to the one back blocks ahead of it.
func chain(n int, back int) impl.Func {
	f := impl.Func{Values: 1, Blocks: make([]impl.Block, n)}
	f.Blocks[0].Instrs = []impl.Instr{{Op: impl.OpArg}}
	for b := range n - 1 {
		f.Blocks[b].Term = impl.Term{Kind: impl.TermJump, To: int64(b + 1)}
		if back >= 0 && b > back {
			f.Blocks[b].Term = impl.Term{Kind: impl.TermBranch, To: int64(b + 1), Else: int64(b - back)}
		}
	}
	f.Blocks[n-1].Term = impl.Term{Kind: impl.TermRet}
	return f
}

func TestFlowLimits(t *testing.T) {
	for _, back := range []int{-1, 0, 1, 7, 500} {
		f := chain(impl.MaxBlocks, back)
		got := impl.Analyze(f)
		for b := range impl.MaxBlocks {
			if len(got.Idom) != impl.MaxBlocks || got.Idom[b] != int64(b-1) || got.Order[b] != int64(b) || !got.Reach[b] {
				t.Fatalf("chain with %d back: block %d", back, b)
			}
		}
		last := int64(impl.MaxBlocks - 1)
		if !impl.Dominates(f, 0, last) || !impl.Dominates(f, last, last) || impl.Dominates(f, last, last-1) || impl.Dominates(f, last, last+1) {
			t.Errorf("chain with %d back: Dominates", back)
		}
	}
	f := chain(impl.MaxBlocks, -1)
	f.Blocks[0].Term = impl.Term{Kind: impl.TermRet}
	if got := impl.Analyze(f); len(got.Order) != 1 || got.Reach[1] || got.Idom[impl.MaxBlocks-1] != -1 || !slices.Equal(got.Preds[impl.MaxBlocks-1].V, []int64{impl.MaxBlocks - 2}) {
		t.Error("only the entry is reachable")
	}
	f = chain(impl.MaxBlocks+1, -1)
	if got := impl.Analyze(f); len(got.Preds)+len(got.Reach)+len(got.Idom)+len(got.Order) != 0 || impl.Dominates(f, 0, 0) {
		t.Error("one block too many")
	}
}

// A function of the greatest size whose last block has every other as predecessor, and phis of it.
func TestFlowWideBlock(t *testing.T) {
	f := impl.Func{Values: 3, Blocks: make([]impl.Block, impl.MaxBlocks)}
	last := int64(impl.MaxBlocks - 1)
	f.Blocks[0].Instrs = []impl.Instr{{Op: impl.OpArg}}
	args := make([]int64, impl.MaxBlocks-1)
	for b := range last {
		f.Blocks[b].Term = impl.Term{Kind: impl.TermBranch, To: b + 1, Else: last}
	}
	f.Blocks[last-1].Term = impl.Term{Kind: impl.TermJump, To: last}
	f.Blocks[last] = impl.Block{Phis: []impl.Phi{{Dst: 1, Args: args}, {Dst: 2, Args: slices.Clone(args)}}, Term: impl.Term{Kind: impl.TermRet, A: 2}}
	for len(f.Blocks[last].Instrs) < impl.MaxSize-impl.MaxBlocks-1-2*impl.MaxBlocks {
		f.Blocks[last].Instrs = append(f.Blocks[last].Instrs, impl.Instr{Op: impl.OpOut, A: 1})
	}
	got := impl.Analyze(f)
	if !impl.ValidFunc(f) || len(got.Preds[last].V) != impl.MaxBlocks-1 || got.Idom[last] != 0 || got.Idom[last-1] != last-2 || got.Order[last] != last {
		t.Error("Analyze")
	}
	if impl.Verdict(f) != 0 || impl.MaxLive(f) != 2 || len(impl.PointSets(f, last)) != impl.MaxSize-impl.MaxBlocks-2*impl.MaxBlocks {
		t.Error(impl.Verdict(f), impl.MaxLive(f))
	}
	f.Blocks[last].Instrs = append(f.Blocks[last].Instrs, impl.Instr{Op: impl.OpOut, A: 1})
	if impl.Verdict(f) != impl.ErrInvalid || impl.MaxLive(f) != -1 || len(impl.Analyze(f).Idom) != 0 {
		t.Error("one instruction too many")
	}
}

// wrongFuncs: functions that are not valid, each by another rule of section 1.3.
func wrongFuncs(t *testing.T) []impl.Func {
	wrong := []impl.Func{{}, {Values: 1}, {Blocks: []impl.Block{{}}}, {Blocks: make([]impl.Block, impl.MaxBlocks+1)}}
	for _, change := range []func(f *impl.Func){
		func(f *impl.Func) { f.Values = -1 },
		func(f *impl.Func) { f.Values = impl.MaxValues + 1 },
		func(f *impl.Func) { f.Values++ },
		func(f *impl.Func) { f.Values = math.MaxInt64 },
		func(f *impl.Func) { f.Blocks[0].Instrs[0].Op = 0 },
		func(f *impl.Func) { f.Blocks[0].Instrs[0].Op = 11 },
		func(f *impl.Func) { f.Blocks[0].Instrs[0].A = 1 },
		func(f *impl.Func) { f.Blocks[0].Instrs[0].Dst = 8 },
		func(f *impl.Func) { f.Blocks[0].Instrs[0].Imm = -1 },
		func(f *impl.Func) { f.Blocks[2].Instrs[0].B = math.MinInt64 },
		func(f *impl.Func) { f.Blocks[0].Term.Kind = 4 },
		func(f *impl.Func) { f.Blocks[0].Term.To = 0 },
		func(f *impl.Func) { f.Blocks[0].Term.To = 4 },
		func(f *impl.Func) { f.Blocks[1].Term.Else = 3 },
		func(f *impl.Func) { f.Blocks[3].Term.To = 1 },
		func(f *impl.Func) { f.Blocks[1].Phis[0].Args = f.Blocks[1].Phis[0].Args[:1] },
		func(f *impl.Func) { f.Blocks[1].Phis[0].Args[1] = -1 },
		func(f *impl.Func) { f.Blocks[1].Phis[1].Dst = 3 },
		func(f *impl.Func) { f.Blocks[0].Phis = []impl.Phi{{Dst: 0}} },
	} {
		f := mustParse(t, sumText)
		change(&f)
		wrong = append(wrong, f)
	}
	return wrong
}

func TestFlowWrongInputs(t *testing.T) {
	for i, f := range wrongFuncs(t) {
		got := impl.Analyze(f)
		if len(got.Preds)+len(got.Reach)+len(got.Idom)+len(got.Order) != 0 {
			t.Errorf("case %d: %+v", i, got)
		}
		for _, x := range []int64{-1, 0, 1, math.MinInt64, math.MaxInt64} {
			if impl.Dominates(f, x, x) || impl.Dominates(f, 0, x) {
				t.Errorf("case %d: Dominates", i)
			}
		}
	}
	f := mustParse(t, sumText)
	for _, x := range []int64{-1, 4, 5, math.MinInt64, math.MaxInt64} {
		if impl.Dominates(f, x, 0) || impl.Dominates(f, 0, x) || impl.Dominates(f, x, x) {
			t.Errorf("Dominates with block %d", x)
		}
	}
}

// checkOwn writes into the lists of an answer one after another, and asks that no other list has changed by it.
func checkOwn(t *testing.T, name string, lists ...[]int64) {
	t.Helper()
	for i, list := range lists {
		for j := range list {
			list[j] = int64(-100 - i)
		}
		_ = append(list, -1)
	}
	for i, list := range lists {
		if slices.ContainsFunc(list, func(x int64) bool { return x != int64(-100-i) }) {
			t.Errorf("%s: list %d shares memory with another", name, i)
		}
	}
}

func listsOf(sets ...[]impl.Set) [][]int64 {
	lists := [][]int64{}
	for _, s := range slices.Concat(sets...) {
		lists = append(lists, s.V)
	}
	return lists
}

func TestFlowOwnMemory(t *testing.T) {
	for _, text := range []string{sumText, allText, diamondText} {
		f := mustParse(t, text)
		before := cloneFunc(f)
		flow := impl.Analyze(f)
		checkOwn(t, "Analyze", append(listsOf(flow.Preds), flow.Idom, flow.Order)...)
		live := impl.Liveness(f)
		checkOwn(t, "Liveness", listsOf(live.In, live.Out)...)
		for b := range f.Blocks {
			checkOwn(t, "PointSets", listsOf(impl.PointSets(f, int64(b)))...)
		}
		impl.Dominates(f, 0, 1)
		impl.Verdict(f)
		impl.MaxLive(f)
		if !sameFunc(f, before) {
			t.Errorf("the function is changed:\n%s", impl.EncodeFunc(before))
		}
	}
}
