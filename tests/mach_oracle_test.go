package tests

import (
	"fmt"
	"slices"
	"strings"

	"loop.example/s0031/impl"
)

var machWords = strings.Fields(wordsOfOps + " move put get")

func instrText(in impl.Instr) string {
	line := machWords[in.Op-1]
	for _, letter := range fieldsOfOp(in.Op) {
		line += fmt.Sprint(" ", map[rune]int64{'d': in.Dst, 'a': in.A, 'b': in.B, 'i': in.Imm}[letter])
	}
	return line
}

func termText(t impl.Term) string {
	switch t.Kind {
	case impl.TermJump:
		return fmt.Sprintf("jump %d", t.To)
	case impl.TermBranch:
		return fmt.Sprintf("branch %d %d %d", t.A, t.To, t.Else)
	}
	return fmt.Sprintf("ret %d", t.A)
}

// machText is for valid machine programs.
func machText(m impl.Mach) string {
	lines := []string{fmt.Sprintf("mach %d", m.Regs)}
	for _, b := range m.Blocks {
		lines = append(lines, "block")
		for _, in := range b.Instrs {
			lines = append(lines, instrText(in))
		}
		lines = append(lines, termText(b.Term))
	}
	return strings.Join(lines, "\n") + "\n"
}

// machOf reads the text of a machine program, which must be a good one.
func machOf(text string) impl.Mach {
	m := impl.Mach{}
	for _, line := range strings.Split(strings.TrimSuffix(text, "\n"), "\n") {
		fields := strings.Fields(line)
		x := make([]int64, 3)
		for i, field := range fields[1:] {
			fmt.Sscan(field, &x[i])
		}
		switch fields[0] {
		case "mach":
			m.Regs = x[0]
			continue
		case "block":
			m.Blocks = append(m.Blocks, impl.MBlock{})
			continue
		}
		b := &m.Blocks[len(m.Blocks)-1]
		switch fields[0] {
		case "jump":
			b.Term = impl.Term{Kind: 1, To: x[0]}
		case "branch":
			b.Term = impl.Term{Kind: 2, A: x[0], To: x[1], Else: x[2]}
		case "ret":
			b.Term = impl.Term{Kind: 3, A: x[0]}
		default:
			in := impl.Instr{Op: int64(slices.Index(machWords, fields[0]) + 1)}
			for i, letter := range fieldsOfOp(in.Op) {
				*map[rune]*int64{'d': &in.Dst, 'a': &in.A, 'b': &in.B, 'i': &in.Imm}[letter] = x[i]
			}
			b.Instrs = append(b.Instrs, in)
		}
	}
	return m
}

func sameMach(m impl.Mach, n impl.Mach) bool {
	return m.Regs == n.Regs && slices.EqualFunc(m.Blocks, n.Blocks, func(a impl.MBlock, b impl.MBlock) bool {
		return a.Term == b.Term && slices.Equal(a.Instrs, b.Instrs)
	})
}

func cloneMach(m impl.Mach) impl.Mach {
	n := impl.Mach{Regs: m.Regs}
	for _, b := range m.Blocks {
		n.Blocks = append(n.Blocks, impl.MBlock{Instrs: slices.Clone(b.Instrs), Term: b.Term})
	}
	return n
}

func machSize(m impl.Mach) int64 {
	size := len(m.Blocks)
	for _, b := range m.Blocks {
		size += len(b.Instrs)
	}
	return int64(size)
}

func oracleValidMach(m impl.Mach) bool {
	n := int64(len(m.Blocks))
	good := m.Regs >= 1 && m.Regs <= 64 && n >= 1 && n <= 3000 && machSize(m) <= 20000
	isRegister := func(r int64) bool { return 0 <= r && r < m.Regs }
	for _, b := range m.Blocks {
		for _, in := range b.Instrs {
			good = good && oracleInstr(in, isRegister)
		}
		good = good && oracleTerm(b.Term, isRegister, func(t int64) bool { return 0 <= t && t < n })
	}
	return good
}

// oracleRunMach is for valid machine programs and runs within the limits.
func oracleRunMach(m impl.Mach, args []int64, heap []int64, fuel int64) impl.Outcome {
	s := newOracleState(args, heap, fuel)
	at := int64(0)
	for at >= 0 {
		b := m.Blocks[at]
		if s.instrs(b.Instrs) {
			break
		}
		at = s.end(b.Term)
	}
	return s.out
}

// rollMach makes a valid machine program; few registers, so that its instructions meet in them.
func rollMach(d *dice) impl.Mach {
	m := impl.Mach{Regs: int64(1 + d.roll(5)), Blocks: make([]impl.MBlock, 1+d.roll(5))}
	if d.roll(10) == 0 {
		m.Regs = impl.MaxRegs
	}
	register := func() int64 { return int64(d.roll(int(m.Regs))) }
	block := func() int64 { return int64(d.roll(len(m.Blocks))) }
	for b := range m.Blocks {
		for range d.roll(7) {
			in := impl.Instr{Op: int64(1 + d.roll(13))}
			for _, letter := range fieldsOfOp(in.Op) {
				switch letter {
				case 'd':
					in.Dst = register()
				case 'a':
					in.A = register()
				case 'b':
					in.B = register()
				case 'i':
					in.Imm = int64(d.roll(8))
				}
			}
			if in.Op == impl.OpConst && d.roll(2) == 0 {
				in.Imm = -in.Imm
			}
			m.Blocks[b].Instrs = append(m.Blocks[b].Instrs, in)
		}
		m.Blocks[b].Term = []impl.Term{
			{Kind: impl.TermJump, To: block()},
			{Kind: impl.TermBranch, A: register(), To: block(), Else: block()},
			{Kind: impl.TermRet, A: register()},
		}[d.roll(3)]
	}
	return m
}
