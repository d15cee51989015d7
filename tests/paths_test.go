package tests

import (
	"slices"
	"strings"

	"loop.example/s0031/impl"
)

// The oracles of chapter 2 follow paths, one after another or place by place, and know no fixpoint over sets.

func oracleTargets(f impl.Func, b int64) []int64 {
	switch t := f.Blocks[b].Term; t.Kind {
	case impl.TermJump:
		return []int64{t.To}
	case impl.TermBranch:
		return []int64{t.To, t.Else}
	}
	return nil
}

// oracleReach: the blocks to which a path leads from the entry that does not contain without (-1: any path).
func oracleReach(f impl.Func, without int64) []bool {
	reach := make([]bool, len(f.Blocks))
	work := []int64{0}
	for len(work) > 0 {
		b := work[0]
		work = work[1:]
		if b == without || reach[b] {
			continue
		}
		reach[b] = true
		work = append(work, oracleTargets(f, b)...)
	}
	return reach
}

// simplePaths: all paths from the entry that contain no block twice, by their last block. Every path contains the blocks of such a one.
func simplePaths(f impl.Func) [][][]int64 {
	paths := make([][][]int64, len(f.Blocks))
	var extend func(path []int64)
	extend = func(path []int64) {
		last := path[len(path)-1]
		paths[last] = append(paths[last], slices.Clone(path))
		for _, t := range oracleTargets(f, last) {
			if !slices.Contains(path, t) {
				extend(append(slices.Clone(path), t))
			}
		}
	}
	extend([]int64{0})
	return paths
}

// dominance answers whether block a dominates block b.
type dominance [][]bool

func (d dominance) of(a int, b int) bool { return d[a][b] }

// dominanceByPaths is for few blocks: it looks at every path.
func dominanceByPaths(f impl.Func) dominance {
	n := len(f.Blocks)
	d := make(dominance, n)
	paths := simplePaths(f)
	for a := range n {
		d[a] = make([]bool, n)
		for b := range n {
			avoids := func(path []int64) bool { return !slices.Contains(path, int64(a)) }
			d[a][b] = len(paths[a]) > 0 && len(paths[b]) > 0 && !slices.ContainsFunc(paths[b], avoids)
		}
	}
	return d
}

// dominanceByCuts is for many blocks: without a there is no path to b any more.
func dominanceByCuts(f impl.Func) dominance {
	n := len(f.Blocks)
	d := make(dominance, n)
	all := oracleReach(f, -1)
	for a := range n {
		d[a] = make([]bool, n)
		rest := oracleReach(f, int64(a))
		for b := range n {
			d[a][b] = all[a] && all[b] && !rest[b]
		}
	}
	return d
}

// oracleIdom: the dominator other than b that all others dominate.
func oracleIdom(d dominance, b int) int64 {
	others := []int{}
	for a := range d {
		if a != b && d.of(a, b) {
			others = append(others, a)
		}
	}
	for _, a := range others {
		if !slices.ContainsFunc(others, func(c int) bool { return !d.of(c, a) }) {
			return int64(a)
		}
	}
	return -1
}

// oracleOrder: the preorder puts blocks in the order of their ways down the tree, as words in a dictionary.
func oracleOrder(idom []int64, reach []bool) []int64 {
	type way struct {
		block int64
		steps []int64
	}
	ways := []way{}
	for b := range idom {
		if !reach[b] {
			continue
		}
		w := way{block: int64(b)}
		for at := int64(b); at >= 0; at = idom[at] {
			w.steps = slices.Insert(w.steps, 0, at)
		}
		ways = append(ways, w)
	}
	slices.SortFunc(ways, func(x way, y way) int { return slices.Compare(x.steps, y.steps) })
	order := []int64{}
	for _, w := range ways {
		order = append(order, w.block)
	}
	return order
}

// spot is a place within a block: 0 the phis, i+1 instruction i, then the end, and last what the phis of the targets read.
type spot struct {
	block int64
	at    int
}

func lastSpot(f impl.Func, b int64) spot { return spot{b, len(f.Blocks[b].Instrs) + 2} }

func spotsAfter(f impl.Func, s spot) []spot {
	if s != lastSpot(f, s.block) {
		return []spot{{s.block, s.at + 1}}
	}
	next := []spot{}
	for _, t := range oracleTargets(f, s.block) {
		next = append(next, spot{t, 0})
	}
	return next
}

func usesAt(f impl.Func, s spot) []int64 {
	block := f.Blocks[s.block]
	uses := []int64{}
	switch {
	case s.at == 0:
	case s == lastSpot(f, s.block):
		for _, t := range oracleTargets(f, s.block) {
			i := slices.Index(oraclePreds(f, t), s.block)
			for _, p := range f.Blocks[t].Phis {
				uses = append(uses, p.Args[i])
			}
		}
	case s.at == len(block.Instrs)+1:
		if block.Term.Kind != impl.TermJump {
			uses = append(uses, block.Term.A)
		}
	default:
		in := block.Instrs[s.at-1]
		if strings.Contains(fieldsOfOp(in.Op), "a") {
			uses = append(uses, in.A)
		}
		if strings.Contains(fieldsOfOp(in.Op), "b") {
			uses = append(uses, in.B)
		}
	}
	return uses
}

func defsAt(f impl.Func, s spot) []int64 {
	block := f.Blocks[s.block]
	defs := []int64{}
	if s.at == 0 {
		for _, p := range block.Phis {
			defs = append(defs, p.Dst)
		}
	} else if s.at <= len(block.Instrs) && strings.HasPrefix(fieldsOfOp(block.Instrs[s.at-1].Op), "d") {
		defs = append(defs, block.Instrs[s.at-1].Dst)
	}
	return defs
}

// oracleLive: does a path lead from just ahead of the spot to a use of v without passing a definition of v?
func oracleLive(f impl.Func, v int64, from spot) bool {
	seen := map[spot]bool{}
	work := []spot{from}
	for len(work) > 0 {
		s := work[0]
		work = work[1:]
		if seen[s] {
			continue
		}
		seen[s] = true
		if slices.Contains(usesAt(f, s), v) {
			return true
		}
		if !slices.Contains(defsAt(f, s), v) {
			work = append(work, spotsAfter(f, s)...)
		}
	}
	return false
}

// liveAt: all values live just ahead of the spot, and those of also.
func liveAt(f impl.Func, from spot, also []int64) []int64 {
	live := []int64{}
	for v := range f.Values {
		if slices.Contains(also, v) || oracleLive(f, v, from) {
			live = append(live, v)
		}
	}
	return live
}

func oraclePoints(f impl.Func, b int64) [][]int64 {
	sets := [][]int64{}
	for at := range len(f.Blocks[b].Instrs) + 1 {
		sets = append(sets, liveAt(f, spot{b, at + 1}, defsAt(f, spot{b, at})))
	}
	return sets
}

// oracleStrict: the one spot that defines a value stands on every path to each spot that uses it, ahead of the use.
func oracleStrict(f impl.Func, d dominance) bool {
	places := map[int64]spot{}
	eachSpot(f, func(s spot) {
		for _, v := range defsAt(f, s) {
			places[v] = s
		}
	})
	strict := true
	eachSpot(f, func(s spot) {
		for _, v := range usesAt(f, s) {
			def := places[v]
			inside := def.block == s.block && def.at < s.at
			above := def.block != s.block && d.of(int(def.block), int(s.block))
			strict = strict && (inside || above || !d.of(0, int(s.block)))
		}
	})
	return strict
}

func eachSpot(f impl.Func, visit func(s spot)) {
	for b := range f.Blocks {
		for at := range lastSpot(f, int64(b)).at + 1 {
			visit(spot{int64(b), at})
		}
	}
}

func oracleVerdict(f impl.Func, d dominance) int64 {
	switch {
	case !oracleValid(f):
		return 9
	case slices.Contains(oracleReach(f, -1), false):
		return 10
	case !oracleStrict(f, d):
		return 11
	}
	return 0
}
