package tests

import (
	"testing"

	"loop.example/s0031/impl"
)

func TestVerdictExamples(t *testing.T) {
	cases := []struct {
		name string
		text string
		want int64
	}{
		{"the sum", sumText, 0},
		{"a loop", diamondText, 0},
		{"one block alone", "func 1\nblock\nconst 0 1\nret 0\n", 0},
		{"no values", "func 0\nblock\njump 1\nblock\njump 1\n", 0},
		{"a block that is not reachable", "func 1\nblock\nconst 0 1\nret 0\nblock\nret 0\n", 10},
		{"a loop that is not reachable", "func 1\nblock\nconst 0 1\nret 0\nblock\njump 2\nblock\njump 1\n", 10},
		{"not reachable and not strict there", "func 2\nblock\nconst 0 1\nret 0\nblock\nadd 1 1 1\nret 1\n", 10},
		{"not reachable, and not strict elsewhere", "func 1\nblock\nadd 0 0 0\nret 0\nblock\nret 0\n", 10},
		{"used ahead of the definition", "func 2\nblock\nadd 0 1 1\nconst 1 1\nret 0\n", 11},
		{"A of a place that defines it", "func 4\nblock\nconst 1 1\nconst 0 1\nconst 2 1\nadd 3 3 1\nret 3\n", 11},
		{"B of a place that defines it", "func 2\nblock\nconst 1 1\nless 0 1 0\nret 0\n", 11},
		{"load of itself", "func 1\nblock\nload 0 0\nret 0\n", 11},
		{"the end uses the last definition", "func 2\nblock\nconst 0 1\nadd 1 0 0\nret 1\n", 0},
		{"branch on a value of the target", "func 1\nblock\nbranch 0 1 2\nblock\nconst 0 1\nret 0\nblock\njump 1\n", 11},
		{"store of a value defined later", "func 2\nblock\nconst 0 1\nstore 0 1\nconst 1 1\nret 0\n", 11},
		{"out of a value defined later", "func 2\nblock\nconst 0 1\nout 1\nconst 1 1\nret 0\n", 11},
		{"defined on one way only", "func 2\nblock\nconst 0 1\nbranch 0 1 2\nblock\nconst 1 1\njump 3\nblock\njump 3\nblock\nret 1\n", 11},
		{"defined on both ways, as two values", "func 4\nblock\nconst 0 1\nbranch 0 1 2\nblock\nconst 1 1\njump 3\nblock\nconst 2 1\njump 3\nblock\nphi 3 1 2\nret 3\n", 0},
		{"arguments of a phi the wrong way round", "func 4\nblock\nconst 0 1\nbranch 0 1 2\nblock\nconst 1 1\njump 3\nblock\nconst 2 1\njump 3\nblock\nphi 3 2 1\nret 3\n", 11},
		{"argument defined in the predecessor itself", "func 2\nblock\nconst 0 1\njump 1\nblock\nphi 1 0\nret 1\n", 0},
		{"argument defined in the phi's own block", "func 3\nblock\nconst 0 1\njump 1\nblock\nphi 1 2\nconst 2 1\nret 1\n", 11},
		{"a phi that reads itself in its own block's loop", "func 2\nblock\nconst 0 1\njump 1\nblock\nphi 1 0 1\nbranch 1 1 2\nblock\nret 1\n", 0},
		{"a phi that reads only itself", "func 2\nblock\nconst 0 1\njump 1\nblock\nphi 1 1\nret 1\n", 11},
		{"phis that read each other", "func 4\nblock\nconst 0 1\nconst 1 2\njump 1\nblock\nphi 2 0 3\nphi 3 1 2\nbranch 2 1 2\nblock\nret 3\n", 0},
		{"phis that read each other from the start", "func 3\nblock\nconst 0 1\njump 1\nblock\nphi 1 2\nphi 2 1\nret 0\n", 11},
		{"the loop's second round alone would be good", "func 3\nblock\nconst 0 1\njump 1\nblock\nout 1\nconst 1 1\nbranch 0 1 2\nblock\nconst 2 1\nret 2\n", 11},
		{"used at the branch to another target's phi", "func 3\nblock\nconst 0 1\nbranch 0 1 2\nblock\nconst 1 1\njump 2\nblock\nphi 2 1 0\nret 2\n", 11},
	}
	for _, c := range cases {
		f := mustParse(t, c.text)
		if got := impl.Verdict(f); got != c.want {
			t.Errorf("%s: %d, want %d", c.name, got, c.want)
		}
		if got := oracleVerdict(f, dominanceByPaths(f)); got != c.want {
			t.Errorf("%s: by paths %d, want %d", c.name, got, c.want)
		}
	}
}

// A function that is not valid is refused for this first, whatever else would apply.
func TestVerdictNotValid(t *testing.T) {
	for i, f := range wrongFuncs(t) {
		if got := impl.Verdict(f); got != impl.ErrInvalid {
			t.Errorf("case %d: %d", i, got)
		}
	}
	f := mustParse(t, "func 1\nblock\nadd 0 0 0\nret 0\nblock\nret 0\n")
	f.Values = 2
	if got := impl.Verdict(f); got != 9 {
		t.Errorf("not valid, not reachable, not strict: %d", got)
	}
}

func TestVerdictByPaths(t *testing.T) {
	d := dice(23)
	met := map[int64]int{}
	for range 3000 {
		f := rollFunc(&d)
		if d.roll(3) > 0 {
			f = rollStrict(&d, 1+d.roll(8))
			spoilUse(&d, &f)
		}
		want := oracleVerdict(f, dominanceByPaths(f))
		if got := impl.Verdict(f); got != want {
			t.Fatalf("%s\nverdict %d, want %d", impl.EncodeFunc(f), got, want)
		}
		met[want]++
	}
	for _, code := range []int64{0, 10, 11} {
		if met[code] < 100 {
			t.Errorf("code %d met %d times", code, met[code])
		}
	}
}

// spoilUse gives one use any value, so that by and by each kind of use is the only one that is not strict.
func spoilUse(d *dice, f *impl.Func) {
	block := &f.Blocks[d.roll(len(f.Blocks))]
	v := int64(d.roll(int(f.Values)))
	switch d.roll(4) {
	case 0:
		if len(block.Phis) > 0 {
			args := block.Phis[d.roll(len(block.Phis))].Args
			args[d.roll(len(args))] = v
		}
	case 1:
		if len(block.Instrs) > 0 {
			if in := &block.Instrs[d.roll(len(block.Instrs))]; in.Op > impl.OpArg {
				in.A = v
			}
		}
	case 2:
		if len(block.Instrs) > 0 {
			if in := &block.Instrs[d.roll(len(block.Instrs))]; in.Op > impl.OpArg && in.Op < impl.OpLoad || in.Op == impl.OpStore {
				in.B = v
			}
		}
	case 3:
		if block.Term.Kind != impl.TermJump {
			block.Term.A = v
		}
	}
}

func TestVerdictLimits(t *testing.T) {
	f := chain(impl.MaxBlocks, 3)
	if got := impl.Verdict(f); got != 0 {
		t.Errorf("chain: %d", got)
	}
	last := &f.Blocks[impl.MaxBlocks-1]
	first := &f.Blocks[0]
	first.Instrs, last.Instrs = last.Instrs, first.Instrs
	if got := impl.Verdict(f); got != impl.ErrNotStrict {
		t.Errorf("defined only in the last block: %d", got)
	}
	f.Blocks[impl.MaxBlocks-2].Term = impl.Term{Kind: impl.TermRet}
	if got := impl.Verdict(f); got != impl.ErrUnreachable {
		t.Errorf("and that not reachable: %d", got)
	}
	if got := impl.Verdict(chain(impl.MaxBlocks+1, 3)); got != impl.ErrInvalid {
		t.Errorf("one block too many: %d", got)
	}
}
