package tests

import (
	"slices"
	"testing"

	"loop.example/s0031/impl"
)

// sameCourse tells whether the run of a machine program is, as P13 says, that of the function as far as this went.
func sameCourse(got impl.Outcome, want impl.Outcome) bool {
	if want.Code == impl.OutFuel {
		return got.Code != impl.OutBad && len(got.Trace) >= len(want.Trace) && slices.Equal(got.Trace[:len(want.Trace)], want.Trace)
	}
	return got.Code == want.Code && got.Value == want.Value && slices.Equal(got.Trace, want.Trace) && slices.Equal(got.Heap, want.Heap)
}

// follows lets the function run with fuel n; this must leave the machine program fuel within MaxFuel.
func follows(f impl.Func, m impl.Mach, args []int64, heap []int64, n int64) bool {
	return sameCourse(impl.RunMach(m, args, heap, (n+1)*machSize(m)), oracleRun(f, args, heap, n))
}

// followsOften asks with rolled arguments and heaps.
func followsOften(d *dice, f impl.Func, m impl.Mach, times int) bool {
	for range times {
		args, heap, n := rollRun(d)
		if !follows(f, m, args, heap, min(n, impl.MaxFuel/machSize(m)-1)) {
			return false
		}
	}
	return true
}

// checkChecked holds Check against the oracles and, where it accepts, against runs. It gives the code.
func checkChecked(t *testing.T, d *dice, f impl.Func, m impl.Mach, k int64) int64 {
	t.Helper()
	beforeFunc, beforeMach := cloneFunc(f), cloneMach(m)
	got, want := impl.Check(f, m, k), oracleCheck(f, m, k)
	if got != want {
		t.Fatalf("%s\n%s\nCheck with %d: %d, want %d", impl.EncodeFunc(f), machText(m), k, got, want)
	}
	if !sameFunc(f, beforeFunc) || !sameMach(m, beforeMach) {
		t.Fatal("an argument was changed")
	}
	if got == 0 || got == 4 {
		if broken, known := brokenByPaths(f, m, 300); known && broken != (got == 4) {
			t.Fatalf("%s\n%s\nCheck with %d: %d, but by paths %v", impl.EncodeFunc(f), machText(m), k, got, broken)
		}
	}
	if got == 0 && (m.Regs > k || !followsOften(d, f, m, 4)) {
		t.Fatalf("%s\n%s\nCheck with %d accepts, but the runs differ", impl.EncodeFunc(f), machText(m), k)
	}
	return got
}

// The Lower of every proper colouring is accepted: of small functions all of them.
func TestCheckAllSmallColors(t *testing.T) {
	d := dice(71)
	small := []impl.Func{}
	for _, text := range []string{
		"func 3\nblock\nconst 0 1\nconst 1 1\nadd 2 0 1\nret 2\n",
		"func 4\nblock\nconst 0 1\nconst 1 2\njump 1\nblock\nphi 2 0 3\nphi 3 1 2\nbranch 2 1 2\nblock\nret 3\n",
		"func 4\nblock\nconst 0 1\nconst 1 2\nbranch 0 1 2\nblock\nphi 2 1\nret 2\nblock\nphi 3 1\nret 3\n",
	} {
		small = append(small, mustParse(t, text))
	}
	for len(small) < 40 {
		if f := rollStrict(&d, 1+d.roll(4)); f.Values <= 4 {
			small = append(small, f)
		}
	}
	for _, f := range small {
		meets := oracleMeets(f)
		for k := int64(1); k <= 4; k++ {
			eachList(int(f.Values), 0, k-1, func(colors []int64) {
				if !oracleProper(meets, colors, k) {
					return
				}
				m := impl.Lower(f, colors, k)
				for _, more := range []int64{k - 1, k, k + 1, 64, 65} {
					want := int64(0)
					if more < k || more > 64 {
						want = 2
					}
					if got := impl.Check(f, m, more); got != want {
						t.Fatalf("%s\ncolours %v of %d, Check with %d: %d, want %d", impl.EncodeFunc(f), colors, k, more, got, want)
					}
				}
			})
		}
	}
}

func TestCheckLowered(t *testing.T) {
	d := dice(72)
	for i := range 300 {
		f := rollStrict(&d, 1+d.roll(9))
		if i%60 == 0 {
			f = rollStrict(&d, 20+d.roll(15))
		}
		meets := oracleMeets(f)
		c := impl.Color(f)
		k := min(c.Count+int64(d.roll(5)), impl.MaxRegs)
		for _, colors := range [][]int64{c.Colors, rollColors(&d, f, meets, k), rollColors(&d, f, meets, impl.MaxRegs)} {
			regs := max(slices.Max(colors)+1, k)
			if got := checkChecked(t, &d, f, impl.Lower(f, colors, regs), regs); got != 0 {
				t.Fatalf("%s\ncolours %v of %d: %d", impl.EncodeFunc(f), colors, regs, got)
			}
		}
	}
}

// rollEmbroidered makes a strict function and a machine program that is good but no Lower.
func rollEmbroidered(d *dice, blocks int) (impl.Func, impl.Mach) {
	for {
		f := rollStrict(d, blocks)
		c := impl.Color(f)
		if c.Count+freeRegisters > 40 {
			continue
		}
		used := c.Count + int64(d.roll(3))
		return f, embroider(d, f, rollColors(d, f, oracleMeets(f), used), used)
	}
}

// Machine programs that are good in ways of their own are accepted, and those with a small change are told as the oracles say.
func TestCheckOtherPrograms(t *testing.T) {
	d := dice(73)
	met := map[int64]int{}
	wrong := 0
	for range 500 {
		f, m := rollEmbroidered(&d, 1+d.roll(7))
		if got := checkChecked(t, &d, f, m, m.Regs+int64(d.roll(2))); got != 0 {
			t.Fatalf("%s\n%s\ngood, but %d", impl.EncodeFunc(f), machText(m), got)
		}
		for range 8 {
			changed := cloneMach(m)
			for range 1 + d.roll(2) {
				spoil(&d, &changed)
				if len(changed.Blocks) == 0 {
					break
				}
			}
			got := checkChecked(t, &d, f, changed, m.Regs)
			met[got]++
			if impl.ValidMach(changed) && !followsOften(&d, f, changed, 2) {
				wrong++
				if got == 0 {
					t.Fatalf("%s\n%s\naccepted, but the runs differ", impl.EncodeFunc(f), machText(changed))
				}
			}
		}
	}
	for code, least := range map[int64]int{0: 500, 2: 100, 3: 500, 4: 500} {
		if met[code] < least {
			t.Errorf("code %d met %d times", code, met[code])
		}
	}
	if wrong < 300 {
		t.Errorf("only %d changed programs did something else", wrong)
	}
}

// One change after another to one machine program: every register of every instruction and end to every other, every instruction left out, doubled, and changed with the next.
func TestCheckEachChange(t *testing.T) {
	d := dice(74)
	met := map[int64]int{}
	for range 25 {
		f := rollStrict(&d, 1+d.roll(5))
		m := impl.Alloc(impl.EncodeFunc(f), max(impl.MaxLive(f), 1)).Mach
		if d.roll(3) == 0 {
			f, m = rollEmbroidered(&d, 1+d.roll(3))
		}
		if machSize(m) > 40 {
			continue
		}
		eachChange(m, func(changed impl.Mach) { met[checkChecked(t, &d, f, changed, m.Regs)]++ })
	}
	for code, least := range map[int64]int{0: 500, 3: 200, 4: 2000} {
		if met[code] < least {
			t.Errorf("code %d met %d times", code, met[code])
		}
	}
}

func eachChange(m impl.Mach, do func(changed impl.Mach)) {
	for b, block := range m.Blocks {
		change := func(how func(c *impl.MBlock)) {
			c := cloneMach(m)
			how(&c.Blocks[b])
			do(c)
		}
		for at, in := range block.Instrs {
			change(func(c *impl.MBlock) { c.Instrs = slices.Delete(c.Instrs, at, at+1) })
			change(func(c *impl.MBlock) { c.Instrs = slices.Insert(c.Instrs, at, in) })
			if at > 0 {
				change(func(c *impl.MBlock) { c.Instrs[at], c.Instrs[at-1] = c.Instrs[at-1], c.Instrs[at] })
			}
			for _, letter := range fieldsOfOp(in.Op) {
				for r := range m.Regs {
					change(func(c *impl.MBlock) {
						*map[rune]*int64{'d': &c.Instrs[at].Dst, 'a': &c.Instrs[at].A, 'b': &c.Instrs[at].B, 'i': &c.Instrs[at].Imm}[letter] = r
					})
				}
			}
		}
		for r := range m.Regs {
			change(func(c *impl.MBlock) {
				c.Instrs = append(c.Instrs, impl.Instr{Op: impl.OpMove, Dst: r, A: (r + 1) % m.Regs})
			})
			if block.Term.Kind != impl.TermJump {
				change(func(c *impl.MBlock) { c.Term.A = r })
			}
		}
		for to := range int64(len(m.Blocks)) {
			if block.Term.Kind != impl.TermRet {
				change(func(c *impl.MBlock) { c.Term.To = to })
			}
			if block.Term.Kind == impl.TermBranch {
				change(func(c *impl.MBlock) { c.Term.Else = to })
			}
		}
	}
}

// Any function with any machine program, most of which have nothing to do with each other.
func TestCheckAnyPair(t *testing.T) {
	d := dice(75)
	met := map[int64]int{}
	for range 4000 {
		f, m := rollFunc(&d), rollMach(&d)
		if d.roll(3) > 0 {
			f = rollStrict(&d, 1+d.roll(3))
		}
		if d.roll(4) == 0 {
			m.Blocks = slices.Clone(m.Blocks[:1])
			m.Blocks[0].Instrs = slices.Clone(f.Blocks[0].Instrs)
			m.Blocks[0].Term = f.Blocks[0].Term
		}
		met[checkChecked(t, &d, f, m, int64(d.roll(68)-2))]++
	}
	for code := int64(1); code <= 3; code++ {
		if met[code] < 100 {
			t.Errorf("code %d met %d times", code, met[code])
		}
	}
}

// All ways to put one of four copies, or none, ahead of each instruction and each end of a short machine program.
func TestCheckAllSmallPrograms(t *testing.T) {
	d := dice(76)
	met := map[int64]int{}
	for _, text := range []string{
		"func 2\nblock\nconst 0 4\njump 1\nblock\nphi 1 0 1\nout 1\njump 1\n",
		"func 3\nblock\narg 0 0\nconst 1 5\njump 1\nblock\nphi 2 0 1\nbranch 2 1 2\nblock\nret 2\n",
		"func 2\nblock\narg 0 0\njump 1\nblock\nadd 1 0 0\nbranch 1 1 2\nblock\nret 1\n",
	} {
		f := mustParse(t, text)
		copies := []impl.Instr{{}, {Op: impl.OpMove, Dst: 1}, {Op: impl.OpMove, A: 1}, {Op: impl.OpPut}, {Op: impl.OpGet, Dst: 1}}
		colors := impl.Color(f).Colors
		if slices.Max(colors) > 1 {
			t.Fatal(colors)
		}
		plain := impl.Lower(f, colors, 2)
		spots := 0
		for b := range f.Blocks {
			spots += len(plain.Blocks[b].Instrs) + 1
		}
		eachList(min(spots, 6), 0, int64(len(copies)-1), func(list []int64) {
			m := cloneMach(plain)
			at := 0
			for b := range f.Blocks {
				instrs := []impl.Instr{}
				for i := range len(m.Blocks[b].Instrs) + 1 {
					if at < len(list) && list[at] > 0 {
						instrs = append(instrs, copies[list[at]])
					}
					at++
					if i < len(m.Blocks[b].Instrs) {
						instrs = append(instrs, m.Blocks[b].Instrs[i])
					}
				}
				m.Blocks[b].Instrs = instrs
			}
			met[checkChecked(t, &d, f, m, 2)]++
		})
	}
	if met[0] < 200 || met[4] < 200 {
		t.Errorf("met %v", met)
	}
}
