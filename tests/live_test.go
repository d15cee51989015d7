package tests

import (
	"math"
	"slices"
	"testing"

	"loop.example/s0031/impl"
)

// checkLive holds Liveness, PointSets and MaxLive against a search along paths, place by place.
func checkLive(t *testing.T, f impl.Func) {
	t.Helper()
	in := [][]int64{}
	out := [][]int64{}
	most := 0
	for b := range int64(len(f.Blocks)) {
		in = append(in, liveAt(f, spot{b, 0}, nil))
		out = append(out, liveAt(f, lastSpot(f, b), nil))
		want := oraclePoints(f, b)
		for _, set := range want {
			most = max(most, len(set))
		}
		if got := impl.PointSets(f, b); !sameSets(got, want) {
			t.Fatalf("%s\nPointSets of block %d: %v, want %v", impl.EncodeFunc(f), b, got, want)
		}
	}
	got := impl.Liveness(f)
	if !sameSets(got.In, in) || !sameSets(got.Out, out) {
		t.Fatalf("%s\nLiveness: %v, want %v and %v", impl.EncodeFunc(f), got, in, out)
	}
	if got := impl.MaxLive(f); got != int64(most) {
		t.Fatalf("%s\nMaxLive: %d, want %d", impl.EncodeFunc(f), got, most)
	}
}

func TestLiveSum(t *testing.T) {
	f := mustParse(t, sumText)
	got := impl.Liveness(f)
	if !sameSets(got.In, [][]int64{{}, {0, 2}, {0, 2, 3, 4}, {3}}) || !sameSets(got.Out, [][]int64{{0, 1, 2}, {0, 2, 3, 4}, {0, 2, 6, 7}, {}}) {
		t.Errorf("%v", got)
	}
	if got := impl.PointSets(f, 1); !sameSets(got, [][]int64{{0, 2, 3, 4}, {0, 2, 3, 4, 5}}) {
		t.Errorf("%v", got)
	}
	if got := impl.MaxLive(f); got != 5 {
		t.Errorf("MaxLive %d", got)
	}
	checkLive(t, f)
}

func TestLiveExamples(t *testing.T) {
	cases := []struct {
		name string
		text string
		in   [][]int64
		out  [][]int64
		most int64
	}{
		{"one block alone", "func 1\nblock\nconst 0 1\nret 0\n", [][]int64{{}}, [][]int64{{}}, 1},
		{"no values", "func 0\nblock\njump 1\nblock\njump 1\n", [][]int64{{}, {}}, [][]int64{{}, {}}, 0},
		{"never used", "func 3\nblock\nconst 0 1\nconst 1 1\nconst 2 1\njump 1\nblock\njump 1\n", [][]int64{{}, {}}, [][]int64{{}, {}}, 1},
		{"phis never used", "func 4\nblock\nconst 0 1\njump 1\nblock\nphi 1 0\nphi 2 0\nphi 3 0\njump 2\nblock\njump 2\n", [][]int64{{}, {}, {}}, [][]int64{{0}, {}, {}}, 3},
		{"a place that uses a value and defines it", "func 1\nblock\nadd 0 0 0\nret 0\n", [][]int64{{0}}, [][]int64{{}}, 1},
		{"defined again in each round", "func 2\nblock\nconst 0 1\njump 1\nblock\nadd 1 1 0\nbranch 1 1 2\nblock\nret 1\n", [][]int64{{1}, {0, 1}, {1}}, [][]int64{{0, 1}, {0, 1}, {}}, 2},
		{"argument defined in the predecessor itself", "func 3\nblock\nconst 0 1\nconst 1 1\njump 1\nblock\nphi 2 1\nret 2\n", [][]int64{{}, {}}, [][]int64{{1}, {}}, 1},
		{"argument that is live for another reason", "func 3\nblock\nconst 0 1\nconst 1 1\njump 1\nblock\nphi 2 1\nstore 1 2\nret 2\n", [][]int64{{}, {1}}, [][]int64{{1}, {}}, 2},
		{"phis that read each other", "func 4\nblock\nconst 0 1\nconst 1 2\njump 1\nblock\nphi 2 0 3\nphi 3 1 2\nbranch 2 1 2\nblock\nret 3\n", [][]int64{{}, {}, {3}}, [][]int64{{0, 1}, {2, 3}, {}}, 2},
		{"a phi that reads itself", "func 2\nblock\nconst 0 1\njump 1\nblock\nphi 1 0 1\njump 1\n", [][]int64{{}, {}}, [][]int64{{0}, {1}}, 1},
		{"other arguments by other ways", "func 4\nblock\nconst 0 1\nconst 1 1\nbranch 0 1 2\nblock\nconst 2 1\njump 2\nblock\nphi 3 1 2\nret 3\n", [][]int64{{}, {}, {}}, [][]int64{{1}, {2}, {}}, 2},
		{"not strict: live from the entry on", "func 2\nblock\nconst 0 1\njump 1\nblock\nout 1\njump 2\nblock\nconst 1 1\nret 1\n", [][]int64{{1}, {1}, {}}, [][]int64{{1}, {}, {}}, 2},
		{"not reachable", "func 2\nblock\nconst 0 1\nret 0\nblock\nconst 1 1\njump 2\nblock\nstore 0 1\njump 1\n", [][]int64{{}, {0}, {0, 1}}, [][]int64{{}, {0, 1}, {0}}, 2},
		{"a way out of a loop keeps a value alive all through it", "func 2\nblock\nconst 0 1\nconst 1 1\njump 1\nblock\njump 2\nblock\nbranch 0 1 3\nblock\nret 1\n", [][]int64{{}, {0, 1}, {0, 1}, {1}}, [][]int64{{0, 1}, {0, 1}, {0, 1}, {}}, 2},
	}
	for _, c := range cases {
		f := mustParse(t, c.text)
		got := impl.Liveness(f)
		if !sameSets(got.In, c.in) || !sameSets(got.Out, c.out) || impl.MaxLive(f) != c.most {
			t.Errorf("%s: %v, MaxLive %d", c.name, got, impl.MaxLive(f))
		}
		checkLive(t, f)
	}
}

func TestLivePoints(t *testing.T) {
	f := mustParse(t, "func 6\nblock\nconst 0 1\nconst 1 2\njump 1\nblock\nphi 2 0 5\nphi 3 1 3\nconst 4 4\nstore 0 1\nadd 5 2 2\nout 5\nbranch 3 1 2\nblock\nret 5\n")
	if got := impl.PointSets(f, 0); !sameSets(got, [][]int64{{}, {0}, {0, 1}}) {
		t.Errorf("block 0: %v", got)
	}
	if got := impl.PointSets(f, 1); !sameSets(got, [][]int64{{0, 1, 2, 3}, {0, 1, 2, 3, 4}, {0, 1, 2, 3}, {0, 1, 3, 5}, {0, 1, 3, 5}}) {
		t.Errorf("block 1: %v", got)
	}
	if got := impl.PointSets(f, 2); !sameSets(got, [][]int64{{5}}) {
		t.Errorf("block 2: %v", got)
	}
	checkLive(t, f)
}

func TestLiveByPaths(t *testing.T) {
	d := dice(24)
	for range 500 {
		checkLive(t, rollFunc(&d))
		f := rollStrict(&d, 1+d.roll(9))
		checkLive(t, f)
		spoilUse(&d, &f)
		checkLive(t, f)
	}
	for range 3 {
		checkLive(t, rollStrict(&d, 20+d.roll(15)))
	}
}

func TestLiveWrongInputs(t *testing.T) {
	for i, f := range wrongFuncs(t) {
		got := impl.Liveness(f)
		if len(got.In)+len(got.Out) != 0 || impl.MaxLive(f) != -1 {
			t.Errorf("case %d: %v, MaxLive %d", i, got, impl.MaxLive(f))
		}
		for _, b := range []int64{-1, 0, 1, math.MinInt64, math.MaxInt64} {
			if got := impl.PointSets(f, b); len(got) != 0 {
				t.Errorf("case %d: PointSets of %d: %v", i, b, got)
			}
		}
	}
	f := mustParse(t, sumText)
	for _, b := range []int64{-1, 4, 5, math.MinInt64, math.MaxInt64} {
		if got := impl.PointSets(f, b); len(got) != 0 {
			t.Errorf("PointSets of block %d: %v", b, got)
		}
	}
}

// crowd: one block that defines n values and then puts all but one of them out, so that all are alive at once.
func crowd(n int) impl.Func {
	f := impl.Func{Values: int64(n), Blocks: []impl.Block{{Term: impl.Term{Kind: impl.TermRet}}}}
	b := &f.Blocks[0]
	for v := range n {
		b.Instrs = append(b.Instrs, impl.Instr{Op: impl.OpConst, Dst: int64(v)})
	}
	for v := 1; v < n; v++ {
		b.Instrs = append(b.Instrs, impl.Instr{Op: impl.OpOut, A: int64(v)})
	}
	return f
}

func TestLiveLimits(t *testing.T) {
	f := crowd(impl.MaxValues)
	if impl.Verdict(f) != 0 || impl.MaxLive(f) != impl.MaxValues {
		t.Errorf("crowd: verdict %d, MaxLive %d", impl.Verdict(f), impl.MaxLive(f))
	}
	sets := impl.PointSets(f, 0)
	if len(sets) != 2*impl.MaxValues {
		t.Fatalf("crowd: %d sets", len(sets))
	}
	for i, s := range sets {
		want := min(i, 2*impl.MaxValues-i)
		if len(s.V) != want || !slices.IsSorted(s.V) {
			t.Fatalf("crowd: set %d has %d values", i, len(s.V))
		}
	}
	f.Blocks[0].Instrs = append(f.Blocks[0].Instrs, impl.Instr{Op: impl.OpOut})
	if impl.MaxLive(f) != -1 || len(impl.PointSets(f, 0)) != 0 || len(impl.Liveness(f).In) != 0 {
		t.Error("one instruction too many")
	}
	if f = crowd(impl.MaxValues + 1); impl.MaxLive(f) != -1 {
		t.Error("one value too many")
	}
}

// A chain of the greatest length: block b defines value b, which the last block puts out, and each leads back too.
func TestLiveLongChain(t *testing.T) {
	for _, back := range []int{-1, 0, 1, 40} {
		f := chain(impl.MaxBlocks, back)
		f.Values = impl.MaxBlocks
		last := &f.Blocks[impl.MaxBlocks-1]
		for b := int64(1); b < impl.MaxBlocks; b++ {
			f.Blocks[b].Instrs = []impl.Instr{{Op: impl.OpConst, Dst: b}}
		}
		for v := range int64(impl.MaxBlocks) {
			last.Instrs = append(last.Instrs, impl.Instr{Op: impl.OpOut, A: v})
		}
		live := impl.Liveness(f)
		for b := range impl.MaxBlocks - 1 {
			if len(live.In[b].V) != b || len(live.Out[b].V) != b+1 {
				t.Fatalf("chain with %d back, block %d: %d in, %d out", back, b, len(live.In[b].V), len(live.Out[b].V))
			}
		}
		if impl.Verdict(f) != 0 || impl.MaxLive(f) != impl.MaxBlocks {
			t.Errorf("chain with %d back: verdict %d, MaxLive %d", back, impl.Verdict(f), impl.MaxLive(f))
		}
		if sets := impl.PointSets(f, impl.MaxBlocks-1); len(sets) != impl.MaxBlocks+2 || len(sets[1].V) != impl.MaxBlocks || len(sets[impl.MaxBlocks+1].V) != 1 {
			t.Errorf("chain with %d back: the last block", back)
		}
	}
}
