package tests

import (
	"fmt"
	"math"
	"slices"
	"strings"
	"testing"

	"loop.example/s0031/impl"
)

type moves = []impl.Move

// oracleSequence follows the three rules word by word, over a list in ascending order of To; a move that reads the scratch has From -1.
func oracleSequence(given moves) []impl.Instr {
	left := moves{}
	for to := range int64(64) {
		for _, m := range given {
			if m.To == to && m.From != to {
				left = append(left, m)
			}
		}
	}
	out := []impl.Instr{}
	for len(left) > 0 {
		i := slices.IndexFunc(left, func(m impl.Move) bool {
			return !slices.ContainsFunc(left, func(other impl.Move) bool { return other.From == m.To })
		})
		if i < 0 {
			out = append(out, impl.Instr{Op: 12, A: left[0].To})
			left[slices.IndexFunc(left, func(m impl.Move) bool { return m.From == left[0].To })].From = -1
			continue
		}
		if left[i].From < 0 {
			out = append(out, impl.Instr{Op: 13, Dst: left[i].To})
		} else {
			out = append(out, impl.Instr{Op: 11, Dst: left[i].To, A: left[i].From})
		}
		left = slices.Delete(left, i, i+1)
	}
	return out
}

// cycles counts the rings of moves, each where it has its smallest register.
func cycles(given moves) int {
	from := map[int64]int64{}
	for _, m := range given {
		from[m.To] = m.From
	}
	count := 0
	for start := range from {
		at, smallest := from[start], true
		for range given {
			next, known := from[at]
			if !known || at == start {
				break
			}
			smallest = smallest && start < at
			at = next
		}
		if at == start && smallest && from[start] != start {
			count++
		}
	}
	return count
}

// playMoves reads all that is read before anything is written.
func playMoves(given moves, regs [64]int64) [64]int64 {
	after := regs
	for _, m := range given {
		after[m.To] = regs[m.From]
	}
	return after
}

func playCopies(copies []impl.Instr, regs [64]int64) [64]int64 {
	s := newOracleState(nil, nil, 1000)
	for r, x := range regs {
		s.cells[int64(r)] = x
	}
	s.instrs(copies)
	for r := range regs {
		regs[r] = s.cells[int64(r)]
	}
	return regs
}

// checkSequence asks of valid moves all that section 4.2 and P10 say, in whatever order the moves come.
func checkSequence(t *testing.T, d *dice, given moves) {
	t.Helper()
	before := slices.Clone(given)
	got := impl.Sequence(given)
	if want := oracleSequence(given); !slices.Equal(got, want) {
		t.Fatalf("%v: %v, want %v", given, got, want)
	}
	regs := [64]int64{}
	moved := 0
	for r := range regs {
		regs[r] = int64(1000 + r)
	}
	for _, m := range given {
		if m.To != m.From {
			moved++
		}
	}
	if playCopies(got, regs) != playMoves(given, regs) {
		t.Fatalf("%v: %v does something else", given, got)
	}
	if len(got) != moved+cycles(given) {
		t.Fatalf("%v: %d copies for %d moves and %d cycles", given, len(got), moved, cycles(given))
	}
	if !slices.Equal(given, before) {
		t.Fatalf("%v became %v", before, given)
	}
	for i := range given {
		j := d.roll(i + 1)
		before[i], before[j] = before[j], before[i]
	}
	if again := impl.Sequence(before); !slices.Equal(again, got) {
		t.Fatalf("%v: %v, in another order %v", given, got, again)
	}
}

// movesOf reads moves, each of them written To=From.
func movesOf(t *testing.T, text string) moves {
	t.Helper()
	out := moves{}
	for _, field := range strings.Fields(text) {
		m := impl.Move{}
		if _, err := fmt.Sscanf(field, "%d=%d", &m.To, &m.From); err != nil {
			t.Fatal(text, err)
		}
		out = append(out, m)
	}
	return out
}

func copiesText(copies []impl.Instr) string {
	lines := []string{}
	for _, in := range copies {
		lines = append(lines, instrText(in))
	}
	return strings.Join(lines, ", ")
}

func TestSequenceExamples(t *testing.T) {
	d := dice(40)
	cases := []struct {
		name  string
		moves string
		want  string
	}{
		{"none", "", ""},
		{"an identity", "0=0", ""},
		{"identities", "5=5 63=63 0=0", ""},
		{"one", "63=0", "move 63 0"},
		{"a chain upwards", "1=0 2=1 3=2", "move 3 2, move 2 1, move 1 0"},
		{"a chain downwards", "2=3 1=2 0=1", "move 0 1, move 1 2, move 2 3"},
		{"a chain there and back", "4=7 2=4 9=2", "move 9 2, move 2 4, move 4 7"},
		{"a small one is free only later", "1=8 5=1 6=9 3=9", "move 3 9, move 5 1, move 1 8, move 6 9"},
		{"all from one", "7=5 2=5 4=5", "move 2 5, move 4 5, move 7 5"},
		{"all from one that is written too", "7=5 5=1 2=5", "move 2 5, move 7 5, move 5 1"},
		{"an identity that others read", "3=3 1=3 4=3", "move 1 3, move 4 3"},
		{"a swap", "1=0 0=1", "put 0, move 0 1, get 1"},
		{"a swap of the last", "63=62 62=63", "put 62, move 62 63, get 63"},
		{"a ring of three", "0=1 1=2 2=0", "put 0, move 0 1, move 1 2, get 2"},
		{"a ring of three the other way", "0=2 1=0 2=1", "put 0, move 0 2, move 2 1, get 1"},
		{"a swap beside an identity", "1=0 2=2 0=1", "put 0, move 0 1, get 1"},
		{"a swap with a chain hanging on it", "4=5 5=4 2=5 1=2", "move 1 2, move 2 5, put 4, move 4 5, get 5"},
		{"a ring with a chain on each", "3=4 4=5 5=3 0=3 1=4 9=5", "move 0 3, move 1 4, move 9 5, put 3, move 3 4, move 4 5, get 5"},
		{"three swaps", "5=4 4=5 1=9 9=1 3=2 2=3", "put 1, move 1 9, get 9, put 2, move 2 3, get 3, put 4, move 4 5, get 5"},
		{"two rings in one another", "0=2 2=4 4=0 1=3 3=5 5=1", "put 0, move 0 2, move 2 4, get 4, put 1, move 1 3, move 3 5, get 5"},
		{"a swap and a chain that do not touch", "0=1 1=0 9=8 8=7", "move 9 8, move 8 7, put 0, move 0 1, get 1"},
	}
	for _, c := range cases {
		given := movesOf(t, c.moves)
		if got := copiesText(impl.Sequence(given)); got != c.want {
			t.Errorf("%s: %s, want %s", c.name, got, c.want)
		}
		checkSequence(t, &d, given)
	}
}

// All parallel copies of five registers, there and spread over the 64.
func TestSequenceAllSmall(t *testing.T) {
	d := dice(41)
	places := []int64{63, 0, 17, 62, 31}
	eachList(5, -1, 4, func(from []int64) {
		low, wide := moves{}, moves{}
		for to, x := range from {
			if x >= 0 {
				low = append(low, impl.Move{To: int64(to), From: x})
				wide = append(wide, impl.Move{To: places[to], From: places[x]})
			}
		}
		checkSequence(t, &d, low)
		checkSequence(t, &d, wide)
	})
}

// rollMoves: n moves within the first regs registers; most of them are a permutation if twist is 0.
func rollMoves(d *dice, n int, regs int, twist int) moves {
	order := ownColors(int64(regs))
	for i := range order {
		j := d.roll(i + 1)
		order[i], order[j] = order[j], order[i]
	}
	given := moves{}
	for i := range n {
		m := impl.Move{To: order[i], From: order[(i*7+3)%n]}
		if twist > 0 && d.roll(twist) == 0 {
			m.From = int64(d.roll(regs))
		}
		given = append(given, m)
	}
	return given
}

func TestSequenceMany(t *testing.T) {
	d := dice(42)
	met := map[int]int{}
	for range 3000 {
		regs := 2 + d.roll(63)
		given := rollMoves(&d, 1+d.roll(regs), regs, d.roll(12))
		met[min(cycles(given), 4)]++
		checkSequence(t, &d, given)
	}
	for n := range 5 {
		if met[n] < 50 {
			t.Errorf("%d cycles met %d times", n, met[n])
		}
	}
}

// As many moves as there can be: one ring, swaps, identities, all from one, a chain with an identity at its end.
func TestSequenceLimit(t *testing.T) {
	d := dice(43)
	for name, from := range map[string]func(to int64) int64{
		"a ring up":          func(to int64) int64 { return (to + 1) % 64 },
		"a ring down":        func(to int64) int64 { return (to + 63) % 64 },
		"swaps":              func(to int64) int64 { return to ^ 1 },
		"swaps across":       func(to int64) int64 { return 63 - to },
		"identities":         func(to int64) int64 { return to },
		"all from one":       func(to int64) int64 { return 40 },
		"a chain to an end":  func(to int64) int64 { return min(to+1, 63) },
		"a chain from there": func(to int64) int64 { return max(to-1, 0) },
	} {
		given := moves{}
		for to := range int64(impl.MaxRegs) {
			given = append(given, impl.Move{To: to, From: from(to)})
		}
		checkSequence(t, &d, given)
		if got := impl.Sequence(append(given, impl.Move{To: 5, From: 5})); len(got) != 0 {
			t.Errorf("%s and one move more: %v", name, got)
		}
	}
}

func TestSequenceNotValid(t *testing.T) {
	good := moves{{To: 1, From: 0}, {To: 0, From: 1}, {To: 7, From: 6}, {To: 9, From: 9}}
	for i := range good {
		for _, x := range []int64{-1, 64, 65, math.MinInt64, math.MaxInt64} {
			to, from, both := slices.Clone(good), slices.Clone(good), slices.Clone(good)
			to[i].To = x
			from[i].From = x
			both[i] = impl.Move{To: x, From: x}
			for _, wrong := range []moves{to, from, both} {
				if got := impl.Sequence(wrong); len(got) != 0 {
					t.Errorf("%v: %v", wrong, got)
				}
			}
		}
		for j := range good {
			twice := slices.Clone(good)
			twice[i].To = good[j].To
			if got := impl.Sequence(twice); i != j && len(got) != 0 {
				t.Errorf("%v: %v", twice, got)
			}
		}
		if got := impl.Sequence(append(slices.Clone(good), good[i])); len(got) != 0 {
			t.Errorf("%v again: %v", good[i], got)
		}
	}
	for _, n := range []int{65, 66, 128, 1000, 1000000} {
		if got := impl.Sequence(slices.Repeat(moves{{To: 3, From: 4}}, n)); len(got) != 0 {
			t.Errorf("%d moves: %v", n, got)
		}
	}
	many := moves{}
	for to := range int64(65) {
		many = append(many, impl.Move{To: to, From: 0})
	}
	if len(impl.Sequence(many)) != 0 || len(impl.Sequence(many[1:])) != 0 || len(impl.Sequence(many[:64])) != 63 {
		t.Error("65 moves, 64 of them with a number too great, 64 good ones")
	}
}

func TestSequenceMemory(t *testing.T) {
	given := moves{{To: 1, From: 0}, {To: 0, From: 1}}
	first := impl.Sequence(given)
	for i := range first {
		first[i] = impl.Instr{Op: 99}
	}
	if got := copiesText(impl.Sequence(given)); got != "put 0, move 0 1, get 1" {
		t.Errorf("the answer is not new memory: %s", got)
	}
}
