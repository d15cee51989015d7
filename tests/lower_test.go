package tests

import (
	"fmt"
	"math"
	"slices"
	"strings"
	"testing"

	"loop.example/s0031/impl"
)

// oracleLower writes the text of the machine program line by line, all blocks and their edges in one go.
func oracleLower(f impl.Func, colors []int64, k int64) string {
	text := fmt.Sprintf("mach %d\n", k)
	added := []string{}
	for p, block := range f.Blocks {
		text += "block\n"
		for _, in := range block.Instrs {
			for letter, field := range map[string]*int64{"d": &in.Dst, "a": &in.A, "b": &in.B} {
				if strings.Contains(fieldsOfOp(in.Op), letter) {
					*field = colors[*field]
				}
			}
			text += instrText(in) + "\n"
		}
		copies := func(to int64) string {
			given := moves{}
			for _, phi := range f.Blocks[to].Phis {
				for i, from := range oraclePreds(f, to) {
					if from == int64(p) {
						given = append(given, impl.Move{To: colors[phi.Dst], From: colors[phi.Args[i]]})
					}
				}
			}
			lines := ""
			for _, in := range oracleSequence(given) {
				lines += instrText(in) + "\n"
			}
			return lines
		}
		way := func(to int64) int {
			if lines := copies(to); lines != "" {
				added = append(added, fmt.Sprintf("block\n%sjump %d\n", lines, to))
				return len(f.Blocks) + len(added) - 1
			}
			return int(to)
		}
		switch block.Term.Kind {
		case 1:
			text += fmt.Sprintf("%sjump %d\n", copies(block.Term.To), block.Term.To)
		case 2:
			to := way(block.Term.To)
			text += fmt.Sprintf("branch %d %d %d\n", colors[block.Term.A], to, way(block.Term.Else))
		case 3:
			text += fmt.Sprintf("ret %d\n", colors[block.Term.A])
		}
	}
	return text + strings.Join(added, "")
}

// checkLower asks for exactly the program of section 4.3, and that it does what the function does. It gives the program.
func checkLower(t *testing.T, f impl.Func, colors []int64, k int64) impl.Mach {
	t.Helper()
	beforeFunc, beforeColors := cloneFunc(f), slices.Clone(colors)
	m := impl.Lower(f, colors, k)
	want := oracleLower(f, colors, k)
	if !sameMach(m, machOf(want)) {
		t.Fatalf("%s\ncolours %v of %d: %+v, want\n%s", impl.EncodeFunc(f), colors, k, m, want)
	}
	if got := string(impl.EncodeMach(m)); got != want || !impl.ValidMach(m) {
		t.Fatalf("%s\ncolours %v of %d:\n%s\nwant\n%s", impl.EncodeFunc(f), colors, k, got, want)
	}
	if !sameFunc(f, beforeFunc) || !slices.Equal(colors, beforeColors) {
		t.Fatalf("an argument is changed: %s", want)
	}
	return m
}

// checkSameRuns lets the function run with fuel n and the machine program with as much as this can need.
func checkSameRuns(t *testing.T, f impl.Func, m impl.Mach, n int64) {
	t.Helper()
	fuel := min((n+1)*machSize(m), impl.MaxFuel)
	for _, args := range [][]int64{nil, {5}, {-3, 7, 1, 2, 3, 4, 5, 6}, {math.MinInt64, -1, 0, 9}} {
		heap := []int64{4, 3, 2, 1, 0, -1}
		want := oracleRun(f, args, heap, n)
		got := impl.RunMach(m, args, heap, fuel)
		same := got.Code == want.Code && got.Value == want.Value && slices.Equal(got.Trace, want.Trace) && slices.Equal(got.Heap, want.Heap)
		if want.Code == impl.OutFuel {
			same = len(got.Trace) >= len(want.Trace) && slices.Equal(got.Trace[:len(want.Trace)], want.Trace)
		}
		if !same {
			t.Fatalf("%s\narguments %v: %+v, the machine program %+v", impl.EncodeFunc(f), args, want, got)
		}
	}
}

func TestLowerExamples(t *testing.T) {
	cases := []struct {
		name   string
		text   string
		colors []int64
		k      int64
		want   string
	}{
		{"the sum", sumText, []int64{0, 1, 2, 1, 3, 4, 1, 3}, 5,
			"mach 5\nblock\narg 0 0\nconst 1 0\nconst 2 1\nmove 3 2\njump 1\nblock\nless 4 0 3\nbranch 4 3 2\nblock\nadd 1 1 3\nadd 3 3 2\njump 1\nblock\nout 1\nret 1\n"},
		{"a swap on an edge of a branch", swapText, []int64{0, 1, 0, 1, 2}, 3,
			"mach 3\nblock\narg 0 0\nconst 1 1\njump 1\nblock\nless 2 0 1\nbranch 2 2 3\nblock\nout 0\nout 1\nret 0\nblock\nput 0\nmove 0 1\nget 1\njump 1\n"},
		{"a swap ahead of a jump", "func 4\nblock\nconst 0 1\nconst 1 2\njump 1\nblock\nphi 2 0 3\nphi 3 1 2\nout 2\njump 1\n", []int64{0, 1, 0, 1}, 2,
			"mach 2\nblock\nconst 0 1\nconst 1 2\njump 1\nblock\nout 0\nput 0\nmove 0 1\nget 1\njump 1\n"},
		{"a ring of three", "func 6\nblock\nconst 0 1\nconst 1 2\nconst 2 3\njump 1\nblock\nphi 3 0 4\nphi 4 1 5\nphi 5 2 3\njump 1\n", []int64{0, 1, 2, 0, 1, 2}, 4,
			"mach 4\nblock\nconst 0 1\nconst 1 2\nconst 2 3\njump 1\nblock\nput 0\nmove 0 1\nmove 1 2\nget 2\njump 1\n"},
		{"no values", "func 0\nblock\njump 1\nblock\njump 1\n", nil, 1, "mach 1\nblock\njump 1\nblock\njump 1\n"},
		{"one register", "func 3\nblock\narg 0 7\njump 1\nblock\nphi 1 0\nadd 2 1 1\nret 2\n", []int64{0, 0, 0}, 1, "mach 1\nblock\narg 0 7\njump 1\nblock\nadd 0 0 0\nret 0\n"},
		{"as many registers as can be", "func 3\nblock\narg 0 7\njump 1\nblock\nphi 1 0\nadd 2 1 1\nret 2\n", []int64{63, 62, 0}, 64, "mach 64\nblock\narg 63 7\nmove 62 63\njump 1\nblock\nadd 0 62 62\nret 0\n"},
		{"a phi never used has its copy", "func 2\nblock\nconst 0 1\njump 1\nblock\nphi 1 0\nret 0\n", []int64{0, 1}, 2, "mach 2\nblock\nconst 0 1\nmove 1 0\njump 1\nblock\nret 0\n"},
		{"fields that are not used stay 0", "func 2\nblock\nconst 0 3\nstore 0 0\nout 0\nload 1 0\njump 1\nblock\nret 1\n", []int64{1, 1}, 2, "mach 2\nblock\nconst 1 3\nstore 1 1\nout 1\nload 1 1\njump 1\nblock\nret 1\n"},
		{"both edges", "func 4\nblock\nconst 0 1\nconst 1 2\nbranch 0 1 2\nblock\nphi 2 1\nret 2\nblock\nphi 3 1\nret 3\n", []int64{0, 1, 0, 2}, 3,
			"mach 3\nblock\nconst 0 1\nconst 1 2\nbranch 0 3 4\nblock\nret 0\nblock\nret 2\nblock\nmove 0 1\njump 1\nblock\nmove 2 1\njump 2\n"},
		{"both edges, To is the greater block", "func 4\nblock\nconst 0 1\nconst 1 2\nbranch 0 2 1\nblock\nphi 2 1\nret 2\nblock\nphi 3 1\nret 3\n", []int64{0, 1, 0, 2}, 3,
			"mach 3\nblock\nconst 0 1\nconst 1 2\nbranch 0 3 4\nblock\nret 0\nblock\nret 2\nblock\nmove 2 1\njump 2\nblock\nmove 0 1\njump 1\n"},
		{"the edge to To alone, as the colours agree at the other", "func 4\nblock\nconst 0 1\nconst 1 2\nbranch 0 1 2\nblock\nphi 2 1\nret 2\nblock\nphi 3 1\nret 3\n", []int64{0, 1, 0, 1}, 2,
			"mach 2\nblock\nconst 0 1\nconst 1 2\nbranch 0 3 2\nblock\nret 0\nblock\nret 1\nblock\nmove 0 1\njump 1\n"},
		{"the edge to Else alone, as the colours agree at the other", "func 4\nblock\nconst 0 1\nconst 1 2\nbranch 0 1 2\nblock\nphi 2 1\nret 2\nblock\nphi 3 1\nret 3\n", []int64{0, 1, 1, 0}, 2,
			"mach 2\nblock\nconst 0 1\nconst 1 2\nbranch 0 1 3\nblock\nret 1\nblock\nret 0\nblock\nmove 0 1\njump 2\n"},
		{"no edge, as the colours agree at both", "func 4\nblock\nconst 0 1\nconst 1 2\nbranch 0 1 2\nblock\nphi 2 1\nret 2\nblock\nphi 3 1\nret 3\n", []int64{0, 1, 1, 1}, 2,
			"mach 2\nblock\nconst 0 1\nconst 1 2\nbranch 0 1 2\nblock\nret 1\nblock\nret 1\n"},
		{"no phis at the targets", "func 2\nblock\nconst 0 1\nconst 1 2\nbranch 0 1 2\nblock\nret 1\nblock\nret 0\n", []int64{1, 0}, 2, "mach 2\nblock\nconst 1 1\nconst 0 2\nbranch 1 1 2\nblock\nret 0\nblock\nret 1\n"},
		{"a branch to its own block", "func 3\nblock\narg 0 0\njump 1\nblock\nphi 1 0 2\nadd 2 1 1\nbranch 2 1 2\nblock\nret 2\n", []int64{0, 1, 0}, 2,
			"mach 2\nblock\narg 0 0\nmove 1 0\njump 1\nblock\nadd 0 1 1\nbranch 0 3 2\nblock\nret 0\nblock\nmove 1 0\njump 1\n"},
		{"new blocks of several branches", "func 4\nblock\nconst 0 1\nconst 1 2\nbranch 0 2 3\nblock\nphi 2 1 1\nbranch 0 1 2\nblock\nphi 3 0 0\nbranch 0 3 1\nblock\nret 0\n", []int64{0, 1, 2, 2}, 3,
			"mach 3\nblock\nconst 0 1\nconst 1 2\nbranch 0 4 3\nblock\nbranch 0 5 6\nblock\nbranch 0 3 7\nblock\nret 0\nblock\nmove 2 0\njump 2\nblock\nmove 2 1\njump 1\nblock\nmove 2 0\njump 2\nblock\nmove 2 1\njump 1\n"},
		{"other arguments by other ways", "func 7\nblock\narg 0 0\nconst 1 10\nconst 2 20\nbranch 0 4 2\nblock\nphi 4 1 2 3\nphi 5 2 1 2\nret 4\nblock\narg 6 1\nbranch 6 3 1\nblock\njump 1\nblock\nconst 3 30\njump 1\n", []int64{0, 1, 2, 0, 1, 2, 0}, 3,
			"mach 3\nblock\narg 0 0\nconst 1 10\nconst 2 20\nbranch 0 4 2\nblock\nret 1\nblock\narg 0 1\nbranch 0 3 1\nblock\nput 1\nmove 1 2\nget 2\njump 1\nblock\nconst 0 30\nmove 1 0\njump 1\n"},
	}
	for _, c := range cases {
		f := mustParse(t, c.text)
		if got := string(impl.EncodeMach(impl.Lower(f, c.colors, c.k))); got != c.want {
			t.Errorf("%s:\n%s", c.name, got)
		}
		checkSameRuns(t, f, checkLower(t, f, c.colors, c.k), 50)
	}
}

// rollColors makes a proper colouring with colours below k: those of Color under other names, and then some of them changed to any that fit.
func rollColors(d *dice, f impl.Func, meets [][]bool, k int64) []int64 {
	names := ownColors(k)
	for i := range names {
		j := d.roll(i + 1)
		names[i], names[j] = names[j], names[i]
	}
	colors := []int64{}
	for _, color := range impl.Color(f).Colors {
		colors = append(colors, names[color])
	}
	for range d.roll(20) {
		changed := slices.Clone(colors)
		changed[d.roll(len(colors))] = int64(d.roll(int(k)))
		if oracleProper(meets, changed, k) {
			colors = changed
		}
	}
	return colors
}

func TestLowerMany(t *testing.T) {
	d := dice(51)
	edges := map[int]int{}
	scratch := 0
	for range 400 {
		f := rollStrict(&d, 1+d.roll(9))
		meets := oracleMeets(f)
		k := min(impl.Color(f).Count+int64(d.roll(5)), impl.MaxRegs)
		for _, colors := range [][]int64{impl.Color(f).Colors, rollColors(&d, f, meets, k), rollColors(&d, f, meets, impl.MaxRegs)} {
			regs := k
			if slices.Max(colors) >= k {
				regs = impl.MaxRegs
			}
			m := checkLower(t, f, colors, regs)
			checkSameRuns(t, f, m, 40)
			edges[min(len(m.Blocks)-len(f.Blocks), 3)]++
			if strings.Contains(machText(m), "put") {
				scratch++
			}
		}
	}
	for n := range 4 {
		if edges[n] < 40 {
			t.Errorf("%d new blocks met %d times", n, edges[n])
		}
	}
	if scratch < 20 {
		t.Errorf("the scratch was needed %d times", scratch)
	}
}

func isZeroMach(m impl.Mach) bool { return m.Regs == 0 && len(m.Blocks) == 0 }

// Every list of colours from -1 to k of a small function, for every small k.
func TestLowerAllSmallColors(t *testing.T) {
	texts := []string{
		"func 3\nblock\nconst 0 1\nconst 1 1\nadd 2 0 1\nret 2\n",
		"func 4\nblock\nconst 0 1\nconst 1 2\njump 1\nblock\nphi 2 0 3\nphi 3 1 2\nbranch 2 1 2\nblock\nret 3\n",
		"func 4\nblock\nconst 0 1\nconst 1 2\nbranch 0 1 2\nblock\nphi 2 1\nret 2\nblock\nphi 3 1\nret 3\n",
	}
	for _, text := range texts {
		f := mustParse(t, text)
		meets := oracleMeets(f)
		for k := int64(0); k <= 4; k++ {
			eachList(int(f.Values), -1, k, func(colors []int64) {
				if oracleProper(meets, colors, k) {
					checkLower(t, f, colors, k)
				} else if m := impl.Lower(f, colors, k); !isZeroMach(m) {
					t.Fatalf("%s\ncolours %v of %d: %+v", text, colors, k, m)
				}
			})
		}
	}
}

func TestLowerRefused(t *testing.T) {
	sum := []int64{0, 1, 2, 1, 3, 4, 1, 3}
	f := mustParse(t, sumText)
	for _, k := range []int64{math.MinInt64, -1, 0, 1, 4, 65, 66, 2000, 2001, math.MaxInt64} {
		if m := impl.Lower(f, sum, k); !isZeroMach(m) {
			t.Errorf("k of %d: %+v", k, m)
		}
	}
	for k := int64(5); k <= impl.MaxRegs; k++ {
		if m := checkLower(t, f, sum, k); m.Regs != k {
			t.Errorf("k of %d: %+v", k, m)
		}
	}
	none := mustParse(t, "func 0\nblock\njump 1\nblock\njump 1\n")
	for k, want := range map[int64]int64{-1: 0, 0: 0, 1: 1, 64: 64, 65: 0} {
		if m := impl.Lower(none, nil, k); m.Regs != want || isZeroMach(m) != (want == 0) {
			t.Errorf("no values, k of %d: %+v", k, m)
		}
	}
	for _, colors := range [][]int64{nil, sum[:7], append(slices.Clone(sum), 0), make([]int64, 8), {0, 1, 2, 1, 3, 3, 1, 3}, {0, 1, 2, 1, 3, 4, 1, 64}, {0, 1, 2, 1, 3, 4, 1, -1}} {
		if m := impl.Lower(f, colors, impl.MaxRegs); !isZeroMach(m) {
			t.Errorf("colours %v: %+v", colors, m)
		}
	}
	refused := append(wrongFuncs(t),
		mustParse(t, "func 1\nblock\nconst 0 1\nret 0\nblock\nret 0\n"),
		mustParse(t, "func 2\nblock\nadd 0 1 1\nconst 1 1\nret 0\n"))
	for i, g := range refused {
		for _, n := range []int64{0, 1, 2, 7, 8, 9} {
			if m := impl.Lower(g, ownColors(n), impl.MaxRegs); !isZeroMach(m) {
				t.Errorf("function %d: %+v", i, m)
			}
		}
	}
}

// All registers go round in one ring, ahead of a jump.
func TestLowerFullRing(t *testing.T) {
	f := impl.Func{Values: 2 * impl.MaxRegs, Blocks: make([]impl.Block, 2)}
	for v := range int64(impl.MaxRegs) {
		f.Blocks[0].Instrs = append(f.Blocks[0].Instrs, impl.Instr{Op: impl.OpConst, Dst: v, Imm: v})
		phi := impl.Phi{Dst: impl.MaxRegs + v, Args: []int64{v, impl.MaxRegs + (v+1)%impl.MaxRegs}}
		f.Blocks[1].Phis = append(f.Blocks[1].Phis, phi)
	}
	f.Blocks[0].Term = impl.Term{Kind: impl.TermJump, To: 1}
	f.Blocks[1].Term = impl.Term{Kind: impl.TermJump, To: 1}
	f.Blocks[1].Instrs = []impl.Instr{{Op: impl.OpOut, A: impl.MaxRegs + 5}}
	m := checkLower(t, f, append(ownColors(impl.MaxRegs), ownColors(impl.MaxRegs)...), impl.MaxRegs)
	if len(m.Blocks) != 2 || len(m.Blocks[0].Instrs) != 64 || len(m.Blocks[1].Instrs) != 1+65 {
		t.Errorf("%s", machText(m))
	}
	checkSameRuns(t, f, m, 100)
}

// manyEdges: each block branches, and each edge needs a copy, so that the machine program has three times as many blocks.
func manyEdges(n int64) impl.Func {
	f := impl.Func{Values: n, Blocks: make([]impl.Block, n)}
	f.Blocks[0].Instrs = []impl.Instr{{Op: impl.OpArg}}
	for b := range n {
		next := func(i int64) int64 { return (b+i)%(n-1) + 1 }
		f.Blocks[b].Term = impl.Term{Kind: impl.TermBranch, To: next(0), Else: next(1)}
	}
	for b := int64(1); b < n; b++ {
		f.Blocks[b].Phis = []impl.Phi{{Dst: b, Args: make([]int64, len(oraclePreds(f, b)))}}
	}
	return f
}

func TestLowerMostBlocks(t *testing.T) {
	f := manyEdges(impl.MaxBlocks)
	colors := slices.Repeat([]int64{1}, impl.MaxBlocks)
	colors[0] = 0
	m := checkLower(t, f, colors, 2)
	if len(m.Blocks) != impl.MaxMachBlocks || machSize(m) != impl.MaxMachBlocks+2*impl.MaxBlocks+1 {
		t.Errorf("%d blocks, size %d", len(m.Blocks), machSize(m))
	}
	checkSameRuns(t, f, m, 20)
}

// A function of the greatest size with as many values as can be, all in one register but for one.
func TestLowerMostValues(t *testing.T) {
	f := impl.Func{Values: impl.MaxValues, Blocks: []impl.Block{{Term: impl.Term{Kind: impl.TermRet, A: 1999}}}}
	colors := []int64{}
	for v := range int64(impl.MaxValues) {
		f.Blocks[0].Instrs = append(f.Blocks[0].Instrs, impl.Instr{Op: impl.OpArg, Dst: v, Imm: v % 8}, impl.Instr{Op: impl.OpOut, A: v})
		colors = append(colors, v%impl.MaxRegs)
	}
	f.Blocks[0].Instrs = f.Blocks[0].Instrs[:impl.MaxSize-1]
	m := checkLower(t, f, colors, impl.MaxRegs)
	if machSize(m) != impl.MaxSize {
		t.Errorf("size %d", machSize(m))
	}
	checkSameRuns(t, f, m, 10)
}

// The lists of the program are its own, and so is the room behind those of the function.
func TestLowerMemory(t *testing.T) {
	for _, text := range []string{sumText, swapText, "func 4\nblock\nconst 0 1\nconst 1 2\nbranch 0 1 2\nblock\nphi 2 1\nret 2\nblock\nphi 3 1\nret 3\n"} {
		f := mustParse(t, text)
		for b := range f.Blocks {
			f.Blocks[b].Instrs = append(make([]impl.Instr, 0, 50), f.Blocks[b].Instrs...)
		}
		before := cloneFunc(f)
		colors := ownColors(f.Values)
		want := oracleLower(f, colors, f.Values)
		m := impl.Lower(f, colors, f.Values)
		for b := range m.Blocks {
			for i := range m.Blocks[b].Instrs {
				m.Blocks[b].Instrs[i] = impl.Instr{Op: int64(-b)}
			}
			_ = append(m.Blocks[b].Instrs, impl.Instr{Op: 99})
		}
		for b, block := range m.Blocks {
			if slices.ContainsFunc(block.Instrs, func(in impl.Instr) bool { return in.Op != int64(-b) }) {
				t.Errorf("%s\nblock %d shares memory with another", text, b)
			}
		}
		for b, block := range f.Blocks {
			behind := block.Instrs[len(block.Instrs):cap(block.Instrs)]
			if slices.ContainsFunc(behind, func(in impl.Instr) bool { return in != impl.Instr{} }) {
				t.Errorf("%s\nwritten behind the instructions of block %d", text, b)
			}
		}
		if !sameFunc(f, before) || !slices.Equal(colors, ownColors(f.Values)) || machText(impl.Lower(f, colors, f.Values)) != want {
			t.Errorf("%s\nthe program shares memory with its arguments", text)
		}
	}
}
