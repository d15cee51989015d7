package tests

import (
	"slices"
	"strings"

	"loop.example/s0031/impl"
)

// embroidery makes of a Lower another machine program that does the same, in ways in which Lower never does it: values stand in several registers, are made in
// one and moved to another, go by the scratch, also across an edge; edges go by blocks that are empty, shared or their own.
type embroidery struct {
	d      *dice
	f      impl.Func
	colors []int64
	plain  impl.Mach
	out    impl.Mach
	double map[int64]int64 // for some values a register of their own, which has them too
	free   int64           // from here on registers are free for a moment
	held   []int64         // for each block a register that comes to it in the scratch, or -1
	shared map[string]int64
}

const freeRegisters = 3

// embroider needs a proper colouring with colours below used, and at least freeRegisters registers more.
func embroider(d *dice, f impl.Func, colors []int64, used int64) impl.Mach {
	e := embroidery{d: d, f: f, colors: colors, plain: impl.Lower(f, colors, max(used, 1)), double: map[int64]int64{}, shared: map[string]int64{}}
	e.free = max(used, 1)
	for v := range f.Values {
		if e.free+freeRegisters < impl.MaxRegs && d.roll(4) == 0 {
			e.double[v] = e.free
			e.free++
		}
	}
	e.out.Regs = e.free + freeRegisters
	for range f.Blocks {
		held := int64(-1)
		if d.roll(3) == 0 {
			held = int64(d.roll(int(e.free)))
		}
		e.held = append(e.held, held)
	}
	e.out.Blocks = make([]impl.MBlock, len(f.Blocks))
	for b := range f.Blocks {
		e.block(int64(b))
	}
	for d.roll(3) == 0 {
		e.out.Blocks = append(e.out.Blocks, impl.MBlock{Instrs: e.idle(4), Term: impl.Term{Kind: impl.TermJump, To: int64(d.roll(len(f.Blocks)))}})
	}
	return e.out
}

func (e *embroidery) spare() int64 { return e.free + int64(e.d.roll(freeRegisters)) }

// idle makes copies that change nothing but free registers and the scratch.
func (e *embroidery) idle(most int) []impl.Instr {
	out := []impl.Instr{}
	for range e.d.roll(most) {
		any := int64(e.d.roll(int(e.out.Regs)))
		out = append(out, []impl.Instr{
			{Op: impl.OpMove, Dst: e.spare(), A: any},
			{Op: impl.OpMove, Dst: any, A: any},
			{Op: impl.OpPut, A: any},
			{Op: impl.OpGet, Dst: e.spare()},
		}[e.d.roll(4)])
	}
	return out
}

// fetch gives a register in which the value is, and the copies that bring it there; the free register is its to take.
func (e *embroidery) fetch(v int64, free int64) (int64, []impl.Instr) {
	at := e.colors[v]
	if double, ok := e.double[v]; ok && e.d.roll(2) == 0 {
		at = double
	}
	switch e.d.roll(4) {
	case 0:
		return free, []impl.Instr{{Op: impl.OpMove, Dst: free, A: at}}
	case 1:
		return free, []impl.Instr{{Op: impl.OpPut, A: at}, {Op: impl.OpGet, Dst: free}}
	}
	return at, nil
}

// settle gives the copies that bring a value from a register to where it must be.
func (e *embroidery) settle(v int64, from int64) []impl.Instr {
	out := []impl.Instr{}
	if from != e.colors[v] {
		out = append(out, impl.Instr{Op: impl.OpMove, Dst: e.colors[v], A: from})
	}
	if double, ok := e.double[v]; ok {
		out = append(out, impl.Instr{Op: impl.OpMove, Dst: double, A: e.colors[v]})
	}
	return out
}

func (e *embroidery) block(b int64) {
	block := e.f.Blocks[b]
	out := []impl.Instr{}
	if e.held[b] >= 0 && b > 0 {
		out = append(out, impl.Instr{Op: impl.OpGet, Dst: e.held[b]})
	}
	for _, phi := range block.Phis {
		out = append(out, e.settle(phi.Dst, e.colors[phi.Dst])...)
	}
	for _, in := range block.Instrs {
		out = append(out, e.idle(3)...)
		used := fieldsOfOp(in.Op)
		for i, field := range []*int64{&in.A, &in.B} {
			if strings.Contains(used, []string{"a", "b"}[i]) {
				at, copies := e.fetch(*field, e.free+int64(i))
				*field, out = at, append(out, copies...)
			}
		}
		if !strings.Contains(used, "d") {
			out = append(out, in)
			continue
		}
		v := in.Dst
		in.Dst = []int64{e.colors[v], e.spare()}[e.d.roll(2)]
		out = append(append(out, in), e.settle(v, in.Dst)...)
	}
	out = append(out, e.idle(3)...)
	term := block.Term
	if term.Kind != impl.TermJump {
		at, copies := e.fetch(term.A, e.free)
		term.A, out = at, append(out, copies...)
	}
	e.ways(b, &term, &out)
	e.out.Blocks[b] = impl.MBlock{Instrs: out, Term: term}
}

// ways lays the edges of a block.
func (e *embroidery) ways(b int64, term *impl.Term, out *[]impl.Instr) {
	plain := e.plain.Blocks[b]
	switch term.Kind {
	case impl.TermJump:
		copies := e.edge(slices.Clone(plain.Instrs[len(e.f.Blocks[b].Instrs):]), term.To)
		if e.d.roll(2) == 0 {
			*out = append(*out, copies...)
		} else {
			term.To = e.edgeBlock(copies, term.To)
		}
	case impl.TermBranch:
		for i, to := range []*int64{&term.To, &term.Else} {
			copies := []impl.Instr{}
			if via := []int64{plain.Term.To, plain.Term.Else}[i]; via >= int64(len(e.f.Blocks)) {
				copies = slices.Clone(e.plain.Blocks[via].Instrs)
			}
			copies = e.edge(copies, *to)
			if len(copies) > 0 || e.d.roll(2) == 0 {
				*to = e.edgeBlock(copies, *to)
			}
		}
	}
}

// edge puts behind the copies of an edge what fills the scratch, and spoils the register that it saves.
func (e *embroidery) edge(copies []impl.Instr, to int64) []impl.Instr {
	if e.held[to] < 0 {
		return append(copies, e.idle(2)...)
	}
	copies = append(copies, impl.Instr{Op: impl.OpPut, A: e.held[to]})
	return append(copies, impl.Instr{Op: impl.OpMove, Dst: e.held[to], A: int64(e.d.roll(int(e.out.Regs)))})
}

// edgeBlock gives a new block, or one that does the same and is there already.
func (e *embroidery) edgeBlock(copies []impl.Instr, to int64) int64 {
	block := impl.MBlock{Instrs: copies, Term: impl.Term{Kind: impl.TermJump, To: to}}
	name := copiesText(copies) + termText(block.Term)
	if at, ok := e.shared[name]; ok && e.d.roll(4) > 0 {
		return at
	}
	e.out.Blocks = append(e.out.Blocks, block)
	e.shared[name] = int64(len(e.out.Blocks)) - 1
	return e.shared[name]
}

// spoil makes one small change anywhere in a machine program; what comes of it need not be valid, nor wrong.
func spoil(d *dice, m *impl.Mach) {
	b := &m.Blocks[d.roll(len(m.Blocks))]
	register := func() int64 { return int64(d.roll(int(m.Regs))) }
	if change := d.roll(20); change >= 14 {
		spoilBlock(d, m, b, change)
		return
	}
	if len(b.Instrs) == 0 || d.roll(5) == 0 {
		in := []impl.Instr{{Op: impl.OpMove, Dst: register(), A: register()}, {Op: impl.OpPut, A: register()}, {Op: impl.OpGet, Dst: register()}}[d.roll(3)]
		b.Instrs = slices.Insert(b.Instrs, d.roll(len(b.Instrs)+1), in)
		return
	}
	at := d.roll(len(b.Instrs))
	in := &b.Instrs[at]
	used := fieldsOfOp(in.Op)
	switch d.roll(8) {
	case 0:
		b.Instrs = slices.Delete(b.Instrs, at, at+1)
	case 1:
		b.Instrs = slices.Insert(b.Instrs, at, *in)
	case 2, 3:
		other := (at + 1) % len(b.Instrs)
		b.Instrs[at], b.Instrs[other] = b.Instrs[other], b.Instrs[at]
	case 4:
		in.Op = int64(1 + d.roll(13))
	default:
		field := used[d.roll(len(used))]
		*map[byte]*int64{'d': &in.Dst, 'a': &in.A, 'b': &in.B, 'i': &in.Imm}[field] = register()
	}
}

func spoilBlock(d *dice, m *impl.Mach, b *impl.MBlock, change int) {
	block := func() int64 { return int64(d.roll(len(m.Blocks))) }
	switch change {
	case 14:
		if b.Term.Kind != impl.TermJump {
			b.Term.A = int64(d.roll(int(m.Regs)))
		}
	case 15:
		b.Term.To, b.Term.Else = b.Term.Else, b.Term.To
	case 16:
		if b.Term.Kind != impl.TermRet {
			b.Term.To = block()
		}
	case 17:
		m.Blocks = m.Blocks[:len(m.Blocks)-1]
	case 18:
		i, j := block(), block()
		m.Blocks[i], m.Blocks[j] = m.Blocks[j], m.Blocks[i]
	case 19:
		m.Blocks = append(m.Blocks, impl.MBlock{Instrs: slices.Clone(b.Instrs), Term: b.Term})
	}
}
