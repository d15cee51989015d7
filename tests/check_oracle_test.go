package tests

import (
	"fmt"
	"maps"
	"slices"
	"strings"

	"loop.example/s0031/impl"
)

// Two oracles for the equations of section 5.1: one works out the sets word by word, the other knows no equations and goes along all paths.

// oracleCheck answers as section 5.1 says, with whole sets of equations.
func oracleCheck(f impl.Func, m impl.Mach, k int64) int64 {
	switch {
	case !oracleValid(f) || oracleVerdict(f, dominanceByCuts(f)) != 0:
		return 1
	case k < 1 || k > 64 || !oracleValidMach(m) || m.Regs > k:
		return 2
	case !oracleShape(f, m):
		return 3
	case brokenBySets(f, m):
		return 4
	}
	return 0
}

func isCopyText(line string) bool {
	return strings.HasPrefix(line, "move ") || strings.HasPrefix(line, "put ") || strings.HasPrefix(line, "get ")
}

// outline writes down what the shape of a block is made of; lead tells where a target leads in the end.
func outline(instrs []impl.Instr, t impl.Term, lead func(b int64) int64) string {
	lines := []string{}
	for _, in := range instrs {
		if !isCopyText(instrText(in)) {
			lines = append(lines, fmt.Sprint(machWords[in.Op-1], in.Imm))
		}
	}
	switch t.Kind {
	case 1:
		lines = append(lines, fmt.Sprint("jump ", lead(t.To)))
	case 2:
		lines = append(lines, fmt.Sprint("branch ", lead(t.To), " ", lead(t.Else)))
	case 3:
		lines = append(lines, "ret")
	}
	return strings.Join(lines, "; ")
}

// oracleShape is for valid functions and machine programs.
func oracleShape(f impl.Func, m impl.Mach) bool {
	n := int64(len(f.Blocks))
	if int64(len(m.Blocks)) < n {
		return false
	}
	itself := func(b int64) int64 { return b }
	lead := func(b int64) int64 {
		if b >= n {
			return m.Blocks[b].Term.To
		}
		return b
	}
	for _, edge := range m.Blocks[n:] {
		if edge.Term.Kind != 1 || edge.Term.To >= n || outline(edge.Instrs, edge.Term, itself) != fmt.Sprint("jump ", edge.Term.To) {
			return false
		}
	}
	for b, block := range f.Blocks {
		if outline(block.Instrs, block.Term, itself) != outline(m.Blocks[b].Instrs, m.Blocks[b].Term, lead) {
			return false
		}
	}
	return true
}

// fact is an equation; cell -1 is the scratch.
type fact struct {
	value int64
	cell  int64
}

type facts map[fact]bool

// brokenBySets begins with empty sets, works all of them out anew until they stay the same, and only then looks for conflicts.
func brokenBySets(f impl.Func, m impl.Mach) bool {
	sets := make([]facts, len(f.Blocks))
	for {
		next, broken := make([]facts, len(f.Blocks)), false
		for b := range f.Blocks {
			conflict := false
			next[b], conflict = factsAhead(f, m, int64(b), sets)
			broken = broken || conflict
		}
		if slices.EqualFunc(next, sets, func(x facts, y facts) bool { return maps.Equal(x, y) }) {
			return broken
		}
		sets = next
	}
}

// factsAhead goes backward through block b by the four rules, and tells whether there is a conflict.
func factsAhead(f impl.Func, m impl.Mach, b int64, sets []facts) (facts, bool) {
	set, conflict := factsAtEnd(f, m, b, sets), false
	block, by := f.Blocks[b], m.Blocks[b]
	if block.Term.Kind != 1 {
		set[fact{block.Term.A, by.Term.A}] = true
	}
	left := block.Instrs
	for _, in := range slices.Backward(by.Instrs) {
		if in.Op > 10 {
			set = factsAheadOfCopy(set, in)
			continue
		}
		of := left[len(left)-1]
		left = left[:len(left)-1]
		used := fieldsOfOp(in.Op)
		if strings.Contains(used, "d") {
			for e := range maps.Clone(set) {
				if e.value == of.Dst || e.cell == in.Dst {
					delete(set, e)
					conflict = conflict || e != fact{of.Dst, in.Dst}
				}
			}
		}
		if strings.Contains(used, "a") {
			set[fact{of.A, in.A}] = true
		}
		if strings.Contains(used, "b") {
			set[fact{of.B, in.B}] = true
		}
	}
	return set, conflict
}

func factsAtEnd(f impl.Func, m impl.Mach, b int64, sets []facts) facts {
	all := facts{}
	end := m.Blocks[b].Term
	for i, t := range oracleTargets(f, b) {
		asked := facts{}
		for e := range sets[t] {
			for _, phi := range f.Blocks[t].Phis {
				if phi.Dst == e.value {
					e.value = phi.Args[slices.Index(oraclePreds(f, t), b)]
					break
				}
			}
			asked[e] = true
		}
		if via := []int64{end.To, end.Else}[i]; via >= int64(len(f.Blocks)) {
			for _, in := range slices.Backward(m.Blocks[via].Instrs) {
				asked = factsAheadOfCopy(asked, in)
			}
		}
		maps.Copy(all, asked)
	}
	return all
}

func factsAheadOfCopy(set facts, in impl.Instr) facts {
	to, from := copiedCells(in)
	out := facts{}
	for e := range set {
		if e.cell == to {
			e.cell = from
		}
		out[e] = true
	}
	return out
}

func copiedCells(in impl.Instr) (int64, int64) {
	switch in.Op {
	case 11:
		return in.Dst, in.A
	case 12:
		return -1, in.A
	}
	return in.Dst, -1
}

// marked is a moment on a path. Each time an instruction makes something, this gets a mark of its own; the values have marks and so have the cells.
type marked struct {
	block  int64
	values []int
	cells  []int
	next   int
}

func (s marked) clone() marked {
	s.values, s.cells = slices.Clone(s.values), slices.Clone(s.cells)
	return s
}

// named numbers the marks anew in the order in which they stand, as only matters which of them are the same.
func (s marked) named() marked {
	s = s.clone()
	names := map[int]int{}
	for _, list := range [][]int{s.values, s.cells} {
		for i, mark := range list {
			if _, ok := names[mark]; !ok {
				names[mark] = len(names)
			}
			list[i] = names[mark]
		}
	}
	s.next = len(names)
	return s
}

func (s marked) cell(c int64) *int {
	if c < 0 {
		return &s.cells[len(s.cells)-1]
	}
	return &s.cells[c]
}

func (s marked) copy(in impl.Instr) {
	to, from := copiedCells(in)
	*s.cell(to) = *s.cell(from)
}

// pass goes through the block of a moment. It tells whether all that is read has the mark that the function's value has.
func (s *marked) pass(block impl.Block, by impl.MBlock) bool {
	good := true
	same := func(v int64, r int64) { good = good && s.values[v] == s.cells[r] }
	left := block.Instrs
	for _, in := range by.Instrs {
		if in.Op > 10 {
			s.copy(in)
			continue
		}
		of := left[0]
		left = left[1:]
		used := fieldsOfOp(in.Op)
		if strings.Contains(used, "a") {
			same(of.A, in.A)
		}
		if strings.Contains(used, "b") {
			same(of.B, in.B)
		}
		if strings.Contains(used, "d") {
			s.values[of.Dst], s.cells[in.Dst] = s.next, s.next
			s.next++
		}
	}
	if block.Term.Kind != 1 {
		same(block.Term.A, by.Term.A)
	}
	return good
}

// follow gives the moment after edge number i of its block.
func (s marked) follow(f impl.Func, m impl.Mach, i int) marked {
	t := oracleTargets(f, s.block)[i]
	after := s.clone()
	after.block = t
	for _, phi := range f.Blocks[t].Phis {
		after.values[phi.Dst] = s.values[phi.Args[slices.Index(oraclePreds(f, t), s.block)]]
	}
	end := m.Blocks[s.block].Term
	if via := []int64{end.To, end.Else}[i]; via >= int64(len(f.Blocks)) {
		for _, in := range m.Blocks[via].Instrs {
			after.copy(in)
		}
	}
	return after
}

// brokenByPaths lets a strict function and a machine program of its shape go side by side along every path, until no new moment comes: is something read that is not the value?
// It gives up, and known is false, if there are more moments than most.
func brokenByPaths(f impl.Func, m impl.Mach, most int) (broken bool, known bool) {
	start := marked{values: make([]int, f.Values), cells: make([]int, m.Regs+1)}
	for _, list := range [][]int{start.values, start.cells} {
		for i := range list {
			list[i] = start.next
			start.next++
		}
	}
	seen := map[string]bool{}
	work := []marked{start}
	for len(work) > 0 {
		s := work[len(work)-1].named()
		work = work[:len(work)-1]
		name := fmt.Sprint(s.block, s.values, s.cells)
		if seen[name] {
			continue
		}
		seen[name] = true
		if len(seen) > most {
			return false, false
		}
		if !s.pass(f.Blocks[s.block], m.Blocks[s.block]) {
			return true, true
		}
		for i := range oracleTargets(f, s.block) {
			work = append(work, s.follow(f, m, i))
		}
	}
	return false, true
}
