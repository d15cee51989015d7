package tests

import (
	"math"
	"slices"
	"testing"

	"loop.example/s0031/impl"
)

const sumText = "func 8\nblock\narg 0 0\nconst 1 0\nconst 2 1\njump 1\nblock\nphi 3 1 6\nphi 4 2 7\nless 5 0 4\nbranch 5 3 2\nblock\nadd 6 3 4\nadd 7 4 2\njump 1\nblock\nout 3\nret 3\n"

// allText has every word of the text form.
const allText = "func 12\nblock\nconst 0 -1000000000\narg 1 7\nadd 2 0 1\nsub 3 0 1\nmul 4 0 1\ndiv 5 0 1\nless 6 0 1\nload 7 0\nstore 0 1\nout 0\nbranch 6 1 2\nblock\nphi 8 0 8\njump 1\nblock\nphi 9 3\nphi 10 4\nconst 11 0\nret 11\n"

func mustParse(t *testing.T, text string) impl.Func {
	t.Helper()
	p := impl.ParseFunc([]byte(text))
	if p.Code != 0 || p.Line != 0 {
		t.Fatalf("%q: code %d line %d", text, p.Code, p.Line)
	}
	return p.Func
}

func sameFunc(f impl.Func, g impl.Func) bool {
	return f.Values == g.Values && slices.EqualFunc(f.Blocks, g.Blocks, func(a impl.Block, b impl.Block) bool {
		return a.Term == b.Term && slices.Equal(a.Instrs, b.Instrs) && slices.EqualFunc(a.Phis, b.Phis, func(p impl.Phi, q impl.Phi) bool {
			return p.Dst == q.Dst && slices.Equal(p.Args, q.Args)
		})
	})
}

func cloneFunc(f impl.Func) impl.Func {
	g := impl.Func{Values: f.Values}
	for _, b := range f.Blocks {
		c := impl.Block{Instrs: slices.Clone(b.Instrs), Term: b.Term}
		for _, p := range b.Phis {
			c.Phis = append(c.Phis, impl.Phi{Dst: p.Dst, Args: slices.Clone(p.Args)})
		}
		g.Blocks = append(g.Blocks, c)
	}
	return g
}

func sameOutcome(a impl.Outcome, b impl.Outcome) bool {
	return a.Code == b.Code && a.Value == b.Value && a.Steps == b.Steps && slices.Equal(a.Trace, b.Trace) && slices.Equal(a.Heap, b.Heap)
}

// dice is a fixed sequence of numbers, so that every run of the tests is the same.
type dice uint64

func (d *dice) roll(n int) int {
	*d = *d*6364136223846793005 + 1442695040888963407
	return int(uint64(*d) >> 33 % uint64(n))
}

// rollFunc makes a valid function, not often a strict one.
func rollFunc(d *dice) impl.Func {
	n := 1 + d.roll(6)
	f := impl.Func{Blocks: make([]impl.Block, n)}
	preds := make([]int, n)
	for b := range f.Blocks {
		t := impl.Term{Kind: impl.TermRet}
		if n > 1 && d.roll(4) > 0 {
			t = impl.Term{Kind: impl.TermJump, To: int64(1 + d.roll(n-1))}
			preds[t.To]++
		}
		if other := int64(1 + d.roll(max(n-1, 1))); t.Kind == impl.TermJump && other != t.To && d.roll(2) == 0 {
			t.Kind, t.Else = impl.TermBranch, other
			preds[other]++
		}
		f.Blocks[b].Term = t
	}
	f.Blocks[0].Instrs = append(f.Blocks[0].Instrs, impl.Instr{Op: impl.OpArg})
	for b := range f.Blocks {
		rollBlock(d, &f.Blocks[b], preds[b])
	}
	numberValues(d, &f)
	return f
}

func rollBlock(d *dice, b *impl.Block, preds int) {
	if preds > 0 {
		for range d.roll(4) {
			b.Phis = append(b.Phis, impl.Phi{Args: make([]int64, preds)})
		}
	}
	for range d.roll(5) {
		in := impl.Instr{Op: int64(1 + d.roll(10))}
		switch in.Op {
		case impl.OpConst:
			in.Imm = int64(d.roll(9) - 4)
		case impl.OpArg:
			in.Imm = int64(d.roll(impl.MaxArgs))
		}
		b.Instrs = append(b.Instrs, in)
	}
}

// numberValues gives each definition a value of its own and each use any value.
func numberValues(d *dice, f *impl.Func) {
	places := []*int64{}
	uses := []*int64{}
	for b := range f.Blocks {
		block := &f.Blocks[b]
		for i := range block.Phis {
			places = append(places, &block.Phis[i].Dst)
			for j := range block.Phis[i].Args {
				uses = append(uses, &block.Phis[i].Args[j])
			}
		}
		for i := range block.Instrs {
			in := &block.Instrs[i]
			if in.Op < impl.OpStore {
				places = append(places, &in.Dst)
			}
			if in.Op > impl.OpArg {
				uses = append(uses, &in.A)
			}
			if in.Op > impl.OpArg && in.Op < impl.OpLoad || in.Op == impl.OpStore {
				uses = append(uses, &in.B)
			}
		}
		if block.Term.Kind != impl.TermJump {
			uses = append(uses, &block.Term.A)
		}
	}
	for i, place := range places {
		*place = int64(i)
		j := d.roll(i + 1)
		*place, *places[j] = *places[j], *place
	}
	f.Values = int64(len(places))
	for _, use := range uses {
		*use = int64(d.roll(len(places)))
	}
}

// rollRun makes arguments, a heap and fuel within the limits.
func rollRun(d *dice) ([]int64, []int64, int64) {
	numbers := []int64{0, 1, -1, 2, 3, 5, 31, 32, -33, math.MaxInt64, math.MinInt64}
	args := make([]int64, d.roll(impl.MaxArgs+1))
	heap := make([]int64, d.roll(impl.HeapSize+1))
	for _, list := range [][]int64{args, heap} {
		for i := range list {
			list[i] = numbers[d.roll(len(numbers))]
		}
	}
	return args, heap, int64(d.roll(60))
}

// eachList: all lists of n numbers from low to high.
func eachList(n int, low int64, high int64, do func(list []int64)) {
	list := slices.Repeat([]int64{low}, n)
	for {
		do(slices.Clone(list))
		at := 0
		for at < n && list[at] == high {
			list[at] = low
			at++
		}
		if at == n {
			return
		}
		list[at]++
	}
}
