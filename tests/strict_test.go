package tests

import (
	"slices"

	"loop.example/s0031/impl"
)

// rollStrict makes a strict function with n blocks, all of them reachable.
func rollStrict(d *dice, n int) impl.Func {
	f := impl.Func{Blocks: rollEnds(d, n)}
	f.Blocks[0].Instrs = []impl.Instr{{Op: impl.OpArg}}
	for b := range f.Blocks {
		rollBlock(d, &f.Blocks[b], len(oraclePreds(f, int64(b))))
	}
	numberValues(d, &f)
	above := dominanceByCuts(f)
	for b := range f.Blocks {
		strictUses(d, &f, int64(b), above)
	}
	return f
}

// rollEnds lays a tree over the blocks first, so that each is reached, then more ways, and then changes the numbers of all but the entry.
func rollEnds(d *dice, n int) []impl.Block {
	ways := make([][]int, n)
	for b := 1; b < n; b++ {
		p := d.roll(b)
		for len(ways[p]) == 2 {
			p = (p + 1) % b
		}
		ways[p] = append(ways[p], b)
	}
	for b := range ways {
		for n > 1 && len(ways[b]) < 2 && d.roll(3) > 0 {
			t := 1 + d.roll(n-1)
			if slices.Contains(ways[b], t) {
				break
			}
			ways[b] = slices.Insert(ways[b], d.roll(len(ways[b])+1), t)
		}
	}
	names := []int{0}
	for b := 1; b < n; b++ {
		names = slices.Insert(names, 1+d.roll(b), b)
	}
	blocks := make([]impl.Block, n)
	for b, to := range ways {
		t := impl.Term{Kind: impl.TermRet}
		if len(to) > 0 {
			t = impl.Term{Kind: impl.TermJump, To: int64(names[to[0]])}
		}
		if len(to) > 1 {
			t.Kind, t.Else = impl.TermBranch, int64(names[to[1]])
		}
		blocks[names[b]].Term = t
	}
	return blocks
}

// strictUses lets all that block b reads, and phis read at its end, be values defined on every path to there.
func strictUses(d *dice, f *impl.Func, b int64, above dominance) {
	known := []int64{}
	eachSpot(*f, func(s spot) {
		if s.block != b && above.of(int(s.block), int(b)) {
			known = append(known, defsAt(*f, s)...)
		}
	})
	block := &f.Blocks[b]
	known = append(known, defsAt(*f, spot{b, 0})...)
	pick := func(use *int64) { *use = known[d.roll(len(known))] }
	for i := range block.Instrs {
		used := fieldsOfOp(block.Instrs[i].Op)
		if slices.Contains([]byte(used), 'a') {
			pick(&block.Instrs[i].A)
		}
		if slices.Contains([]byte(used), 'b') {
			pick(&block.Instrs[i].B)
		}
		known = append(known, defsAt(*f, spot{b, i + 1})...)
	}
	if block.Term.Kind != impl.TermJump {
		pick(&block.Term.A)
	}
	for _, t := range oracleTargets(*f, b) {
		i := slices.Index(oraclePreds(*f, t), b)
		for j := range f.Blocks[t].Phis {
			pick(&f.Blocks[t].Phis[j].Args[i])
		}
	}
}
