package tests

import (
	"fmt"
	"math"
	"slices"
	"strings"
	"testing"

	"loop.example/s0031/impl"
)

// oracleAlloc answers as section 5.2 says, by the oracles of the chapters before.
func oracleAlloc(text string, k int64) impl.Result {
	if code, line := oracleParse(text); code != 0 {
		return impl.Result{Code: code, Line: line}
	}
	f := oracleBuild(strings.Split(strings.TrimSuffix(text, "\n"), "\n"))
	if code := oracleVerdict(f, dominanceByCuts(f)); code != 0 {
		return impl.Result{Code: code}
	}
	if k < 1 || k > 64 {
		return impl.Result{Code: 12}
	}
	points := oracleBlockPoints(f)
	if points.most() > k {
		return impl.Result{Code: 13, Need: points.most()}
	}
	return impl.Result{Need: points.most(), Mach: machOf(oracleLower(f, points.colors(f), k))}
}

func oracleCompile(r impl.Result) string {
	if r.Code != 0 {
		return fmt.Sprintf("error %d %d %d\n", r.Code, r.Line, r.Need)
	}
	return fmt.Sprintf("ok %d\n%s", r.Need, machText(r.Mach))
}

func sameResult(a impl.Result, b impl.Result) bool {
	return a.Code == b.Code && a.Line == b.Line && a.Need == b.Need && sameMach(a.Mach, b.Mach)
}

// checkAlloc holds Alloc, Compile and Execute against what they must answer to one text and k, and what is accepted against the checker and the function. It gives the code.
func checkAlloc(t *testing.T, d *dice, text string, k int64) int64 {
	t.Helper()
	given := []byte(text)
	got, want := impl.Alloc(given, k), oracleAlloc(text, k)
	if !sameResult(got, want) {
		t.Fatalf("%q with %d: %+v, want %+v", text, k, got, want)
	}
	if out := string(impl.Compile(given, k)); out != oracleCompile(want) {
		t.Fatalf("%q with %d: Compile gives %q, want %q", text, k, out, oracleCompile(want))
	}
	args, heap, n := rollRun(d)
	fuel := int64(d.roll(100))
	o, wantRun := impl.Execute(given, k, args, heap, fuel), impl.Outcome{Code: impl.OutBad}
	if want.Code == 0 {
		wantRun = oracleRunMach(want.Mach, args, heap, fuel)
	}
	if !sameOutcome(o, wantRun) {
		t.Fatalf("%q with %d: Execute gives %+v, want %+v", text, k, o, wantRun)
	}
	if want.Code == 0 {
		checkAccepted(t, text, k, got.Mach, args, heap, n)
	}
	if string(given) != text {
		t.Fatal("the text was changed")
	}
	return got.Code
}

// checkAccepted asks of an accepted text that the checker agrees, and that Execute follows the function as P15 says.
func checkAccepted(t *testing.T, text string, k int64, m impl.Mach, args []int64, heap []int64, n int64) {
	t.Helper()
	f := mustParse(t, text)
	if m.Regs != k || impl.Check(f, m, k) != 0 || impl.Check(f, m, k-1) != 2 {
		t.Fatalf("%q with %d: not accepted by Check: %s", text, k, machText(m))
	}
	n = min(n, impl.MaxFuel/machSize(m)-1)
	want := oracleRun(f, args, heap, n)
	got := impl.Execute([]byte(text), k, args, heap, (n+1)*machSize(m))
	if !sameCourse(got, want) {
		t.Fatalf("%q with %d: Execute gives %+v, the function %+v", text, k, got, want)
	}
}

func TestAllocExamples(t *testing.T) {
	d := dice(80)
	for _, c := range []struct {
		name string
		text string
		k    int64
		want string
	}{
		{"the sum", sumText, 5, "ok 5\nmach 5\nblock\narg 0 0\nconst 1 0\nconst 2 1\nmove 3 2\njump 1\nblock\nless 4 0 3\nbranch 4 3 2\nblock\nadd 1 1 3\nadd 3 3 2\njump 1\nblock\nout 1\nret 1\n"},
		{"the sum with all registers", sumText, 64, "ok 5\nmach 64\nblock\narg 0 0\nconst 1 0\nconst 2 1\nmove 3 2\njump 1\nblock\nless 4 0 3\nbranch 4 3 2\nblock\nadd 1 1 3\nadd 3 3 2\njump 1\nblock\nout 1\nret 1\n"},
		{"the sum with one register too few", sumText, 4, "error 13 0 5\n"},
		{"the sum with one register", sumText, 1, "error 13 0 5\n"},
		{"the sum without registers", sumText, 0, "error 12 0 0\n"},
		{"the sum with fewer than none", sumText, -1, "error 12 0 0\n"},
		{"the sum with too many registers", sumText, 65, "error 12 0 0\n"},
		{"a swap", swapText, 3, "ok 3\nmach 3\nblock\narg 0 0\nconst 1 1\njump 1\nblock\nless 2 0 1\nbranch 2 2 3\nblock\nout 0\nout 1\nret 0\nblock\nput 0\nmove 0 1\nget 1\njump 1\n"},
		{"a swap with one register too few", swapText, 2, "error 13 0 3\n"},
		{"one value", "func 1\nblock\nconst 0 -1000000000\nret 0\n", 1, "ok 1\nmach 1\nblock\nconst 0 -1000000000\nret 0\n"},
		{"no values", "func 0\nblock\njump 1\nblock\njump 1\n", 1, "ok 0\nmach 1\nblock\njump 1\nblock\njump 1\n"},
		{"no values with all registers", "func 0\nblock\njump 1\nblock\njump 1\n", 64, "ok 0\nmach 64\nblock\njump 1\nblock\njump 1\n"},
		{"no values without registers", "func 0\nblock\njump 1\nblock\njump 1\n", 0, "error 12 0 0\n"},
		{"no text", "", 3, "error 2 0 0\n"},
		{"no phis", addText, 2, "ok 2\nmach 2\nblock\nconst 0 4\nconst 1 5\nadd 0 0 1\nret 0\n"},
	} {
		if got := string(impl.Compile([]byte(c.text), c.k)); got != c.want {
			t.Errorf("%s: %q", c.name, got)
		}
		checkAlloc(t, &d, c.text, c.k)
	}
}

// Every error of a text comes first, then the verdict, and both whatever k is.
func TestAllocRefusals(t *testing.T) {
	d := dice(81)
	for _, c := range []struct {
		text string
		code int64
		line int64
	}{
		{strings.Repeat("\n", impl.MaxText+1), 1, 0},
		{sumText + strings.Repeat("x", impl.MaxText+1), 1, 0},
		{"", 2, 0},
		{strings.TrimSuffix(sumText, "\n"), 2, 0},
		{"\n", 3, 1},
		{"mach 1\nblock\nret 0\n", 3, 1},
		{"func 1\nblock\nconst  0 1\nret 0\n", 4, 3},
		{"func 1\nblock\nmove 0 0\nret 0\n", 5, 3},
		{"func 1\nblock\nconst 0 1 1\nret 0\n", 6, 3},
		{"func 1\nblock\nconst 0 x\n", 7, 3},
		{"func 1\nblock\nconst 0 1\nret 0\nout 0\n", 8, 5},
		{"func 1\nblock\nconst 0 1\n", 8, 3},
		{"func 2\nblock\nconst 0 1\nret 0\n", 9, 0},
		{"func 0\n", 9, 0},
		{"func 1\nblock\nconst 0 1\nret 0\nblock\nret 0\n", 10, 0},
		{"func 1\nblock\nadd 0 0 0\nret 0\nblock\nret 0\n", 10, 0},
		{"func 1\nblock\nadd 0 0 0\nret 0\n", 11, 0},
		{"func 2\nblock\nconst 0 1\nbranch 0 1 2\nblock\nconst 1 1\njump 2\nblock\nret 1\n", 11, 0},
	} {
		for _, k := range []int64{math.MinInt64, -1, 0, 1, 2, 63, 64, 65, math.MaxInt64} {
			show := c.text[:min(len(c.text), 70)]
			r := impl.Alloc([]byte(c.text), k)
			if !sameResult(r, impl.Result{Code: c.code, Line: c.line}) {
				t.Errorf("%q with %d: %+v, want code %d line %d", show, k, r, c.code, c.line)
			}
			if got := string(impl.Compile([]byte(c.text), k)); got != fmt.Sprintf("error %d %d 0\n", c.code, c.line) {
				t.Errorf("%q with %d: %q", show, k, got)
			}
			checkAlloc(t, &d, c.text, k)
		}
	}
}

// wideText: n values alive at once, and never more.
func wideText(n int) string {
	text := fmt.Sprintf("func %d\nblock\n", n)
	for v := range n {
		text += fmt.Sprintf("arg %d %d\n", v, v%8)
	}
	for v := range n {
		text += fmt.Sprintf("out %d\n", v)
	}
	return text + fmt.Sprintf("ret %d\n", n-1)
}

// For each need every k: below 1 and above MaxRegs it is no k, below the need too small, and else good.
func TestAllocEveryNeed(t *testing.T) {
	d := dice(82)
	for _, need := range []int64{1, 2, 3, 17, 62, 63, 64, 65, 66, 100} {
		text := wideText(int(need))
		for k := int64(-2); k <= 67; k++ {
			want := impl.Result{Code: 12}
			if k >= 1 && k <= 64 && k < need {
				want = impl.Result{Code: 13, Need: need}
			}
			r := impl.Alloc([]byte(text), k)
			if k >= 1 && k <= 64 && k >= need {
				want = impl.Result{Need: need, Mach: r.Mach}
				if r.Mach.Regs != k || !impl.ValidMach(r.Mach) {
					t.Errorf("need %d with %d: %+v", need, k, r.Mach)
				}
			}
			if !sameResult(r, want) {
				t.Errorf("need %d with %d: code %d line %d need %d", need, k, r.Code, r.Line, r.Need)
			}
		}
		for _, k := range []int64{0, 1, need - 1, need, need + 1, 64, 65} {
			checkAlloc(t, &d, text, k)
		}
	}
}

func TestAllocMany(t *testing.T) {
	d := dice(83)
	met := map[int64]int{}
	for i := range 400 {
		f := rollStrict(&d, 1+d.roll(9))
		if i%4 == 0 {
			f = rollFunc(&d)
		}
		if i%4 == 1 {
			spoilUse(&d, &f)
		}
		text := string(impl.EncodeFunc(f))
		if i%8 == 2 {
			text = spoilText(&d, text)
		}
		need := impl.MaxLive(f)
		for _, k := range []int64{need - 1, need, need + 1, int64(d.roll(70) - 2)} {
			met[checkAlloc(t, &d, text, k)]++
		}
	}
	for code, least := range map[int64]int{0: 400, 10: 50, 11: 50, 12: 30, 13: 200} {
		if met[code] < least {
			t.Errorf("code %d met %d times", code, met[code])
		}
	}
}

// spoilText changes, drops or doubles a byte.
func spoilText(d *dice, text string) string {
	at := d.roll(len(text))
	return text[:at] + []string{"", text[at:at+1] + text[at:at+1], "7", " ", "\n", "x"}[d.roll(6)] + text[at+1:]
}

func TestExecuteExamples(t *testing.T) {
	sum := impl.Outcome{Code: impl.OutReturn, Value: 6, Steps: 24, Trace: []int64{6}, Heap: make([]int64, impl.HeapSize)}
	for _, k := range []int64{5, 6, 64} {
		if o := impl.Execute([]byte(sumText), k, []int64{3}, nil, 24); !sameOutcome(o, sum) {
			t.Errorf("the sum with %d: %+v", k, o)
		}
		if o := impl.Execute([]byte(sumText), k, []int64{3}, nil, 23); o.Code != impl.OutFuel || o.Steps != 23 || o.Value != 0 {
			t.Errorf("the sum with %d, one step less: %+v", k, o)
		}
	}
	trap := "func 2\nblock\narg 0 0\nout 0\nstore 0 0\ndiv 1 0 0\nret 1\n"
	heap := make([]int64, impl.HeapSize)
	if o := impl.Execute([]byte(trap), 1, nil, nil, 10); !sameOutcome(o, impl.Outcome{Code: impl.OutTrap, Steps: 4, Trace: []int64{0}, Heap: heap}) {
		t.Errorf("a trap: %+v", o)
	}
	heap[5], heap[7] = 5, 9
	want := impl.Outcome{Code: impl.OutReturn, Value: 1, Steps: 5, Trace: []int64{5}, Heap: heap}
	if o := impl.Execute([]byte(trap), 1, []int64{5}, []int64{0, 0, 0, 0, 0, 0, 0, 9}, 10); !sameOutcome(o, want) {
		t.Errorf("no trap: %+v", o)
	}
	if o := impl.Execute([]byte(sumText), 5, []int64{3}, nil, 0); o.Code != impl.OutFuel || o.Steps != 0 || len(o.Heap) != impl.HeapSize {
		t.Errorf("no fuel: %+v", o)
	}
}

func TestExecuteRefused(t *testing.T) {
	good := []byte(sumText)
	for i, o := range []impl.Outcome{
		impl.Execute(good, 4, []int64{3}, nil, 100),
		impl.Execute(good, 0, []int64{3}, nil, 100),
		impl.Execute(good, -1, []int64{3}, nil, 100),
		impl.Execute(good, 65, []int64{3}, nil, 100),
		impl.Execute(nil, 5, []int64{3}, nil, 100),
		impl.Execute(good[1:], 5, []int64{3}, nil, 100),
		impl.Execute([]byte("func 1\nblock\nadd 0 0 0\nret 0\n"), 5, nil, nil, 100),
		impl.Execute([]byte("func 1\nblock\nconst 0 1\nret 0\nblock\nret 0\n"), 5, nil, nil, 100),
		impl.Execute(good, 5, make([]int64, impl.MaxArgs+1), nil, 100),
		impl.Execute(good, 5, nil, make([]int64, impl.HeapSize+1), 100),
		impl.Execute(good, 5, nil, nil, -1),
		impl.Execute(good, 5, nil, nil, impl.MaxFuel+1),
		impl.Execute(good, 5, nil, nil, math.MinInt64),
		impl.Execute(good, 5, nil, nil, math.MaxInt64),
	} {
		if !sameOutcome(o, impl.Outcome{Code: impl.OutBad}) {
			t.Errorf("case %d: %+v", i, o)
		}
	}
	args, heap := slices.Repeat([]int64{2}, impl.MaxArgs), slices.Repeat([]int64{4}, impl.HeapSize)
	if o := impl.Execute(good, 64, args, heap, impl.MaxFuel); o.Code != impl.OutReturn || o.Value != 3 || !slices.Equal(o.Heap, heap) {
		t.Errorf("all limits met: %+v", o)
	}
}

// The greatest functions: blocks, values, phis with all registers, and as much text as a function can have.
func TestAllocLimits(t *testing.T) {
	ring := impl.Func{Values: 2 * impl.MaxRegs, Blocks: make([]impl.Block, 2)}
	for v := range int64(impl.MaxRegs) {
		ring.Blocks[0].Instrs = append(ring.Blocks[0].Instrs, impl.Instr{Op: impl.OpConst, Dst: v, Imm: v})
		ring.Blocks[1].Phis = append(ring.Blocks[1].Phis, impl.Phi{Dst: impl.MaxRegs + v, Args: []int64{v, impl.MaxRegs + (v+1)%impl.MaxRegs}})
	}
	ring.Blocks[0].Term = impl.Term{Kind: impl.TermJump, To: 1}
	ring.Blocks[1].Term = impl.Term{Kind: impl.TermJump, To: 1}
	ring.Blocks[1].Instrs = []impl.Instr{{Op: impl.OpOut, A: impl.MaxRegs + 5}}
	wide := impl.Func{Values: impl.MaxValues, Blocks: []impl.Block{{Term: impl.Term{Kind: impl.TermRet, A: 1999}}}}
	for v := range int64(impl.MaxValues) {
		wide.Blocks[0].Instrs = append(wide.Blocks[0].Instrs, impl.Instr{Op: impl.OpArg, Dst: v, Imm: v % 8}, impl.Instr{Op: impl.OpOut, A: max(v-63, 0)})
	}
	wide.Blocks[0].Instrs = wide.Blocks[0].Instrs[:impl.MaxSize-1]
	for _, c := range []struct {
		name string
		f    impl.Func
		need int64
	}{
		{"blocks", manyEdges(impl.MaxBlocks), 2},
		{"a chain of blocks", chain(impl.MaxBlocks, 3), 1},
		{"a ring of all registers", ring, 64},
		{"values", wide, 64},
	} {
		text := impl.EncodeFunc(c.f)
		for _, k := range []int64{c.need, 64} {
			r := impl.Alloc(text, k)
			if r.Code != 0 || r.Need != c.need || r.Mach.Regs != k || impl.Check(c.f, r.Mach, k) != 0 {
				t.Fatalf("%s with %d: code %d need %d, Check %d", c.name, k, r.Code, r.Need, impl.Check(c.f, r.Mach, k))
			}
			if got := string(impl.Compile(text, k)); got != oracleCompile(r) {
				t.Errorf("%s with %d: %.200q", c.name, k, got)
			}
			args := []int64{1, 2, 3}
			if o := impl.Execute(text, k, args, nil, impl.MaxFuel); !sameOutcome(o, oracleRunMach(r.Mach, args, nil, impl.MaxFuel)) {
				t.Errorf("%s with %d: code %d steps %d", c.name, k, o.Code, o.Steps)
			}
			if n := impl.MaxFuel/machSize(r.Mach) - 1; !follows(c.f, r.Mach, args, nil, n) {
				t.Errorf("%s with %d does not follow", c.name, k)
			}
		}
		want := impl.Result{Code: impl.ErrRegs, Need: c.need}
		if c.need == 1 {
			want = impl.Result{Code: impl.ErrBadK}
		}
		if r := impl.Alloc(text, c.need-1); !sameResult(r, want) {
			t.Errorf("%s with one register less: code %d need %d", c.name, r.Code, r.Need)
		}
	}
}

// What is answered is new memory, and no two lists of it share any.
func TestAllocMemory(t *testing.T) {
	for _, text := range []string{sumText, swapText, twinsText} {
		given := append(make([]byte, 0, 1000), text...)
		r := impl.Alloc(given, 10)
		want := machText(r.Mach)
		for b := range r.Mach.Blocks {
			for i := range r.Mach.Blocks[b].Instrs {
				r.Mach.Blocks[b].Instrs[i] = impl.Instr{Op: int64(-b)}
			}
			_ = append(r.Mach.Blocks[b].Instrs, impl.Instr{Op: 99})
		}
		for b, block := range r.Mach.Blocks {
			if slices.ContainsFunc(block.Instrs, func(in impl.Instr) bool { return in.Op != int64(-b) }) {
				t.Errorf("%s\nblock %d shares memory with another", text, b)
			}
		}
		out := impl.Compile(given, 10)
		for i := range out {
			out[i] = 'x'
		}
		if string(given) != text || machText(impl.Alloc(given, 10).Mach) != want || !strings.HasSuffix(string(impl.Compile(given, 10)), want) {
			t.Errorf("%s\nan answer shares memory with the text", text)
		}
		heap := make([]int64, impl.HeapSize)
		o := impl.Execute(given, 10, []int64{3, 1}, heap, 100)
		checkOwn(t, "Execute", o.Trace, o.Heap)
		if slices.ContainsFunc(heap, func(x int64) bool { return x != 0 }) {
			t.Errorf("%s\nthe heap is written into", text)
		}
	}
}
