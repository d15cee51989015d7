package tests

import (
	"math"
	"slices"
	"strings"
	"testing"

	"loop.example/s0031/impl"
)

const (
	// addText: one block, no phis.
	addText = "func 3\nblock\nconst 0 4\nconst 1 5\nadd 2 0 1\nret 2\n"
	// joinText: two ways that meet in a phi; no value is read on both sides of them.
	joinText = "func 4\nblock\narg 0 0\nbranch 0 1 2\nblock\nconst 1 5\njump 3\nblock\nconst 2 6\njump 3\nblock\nphi 3 1 2\nout 3\nret 3\n"
	// ringText: one value that is read for ever.
	ringText = "func 1\nblock\narg 0 0\njump 1\nblock\nout 0\njump 1\n"
	// twinsText: both branches go to block 3, with other arguments.
	twinsText = "func 4\nblock\narg 0 0\narg 1 1\nbranch 0 1 3\nblock\nbranch 1 2 3\nblock\nret 0\nblock\nphi 2 0 1\nphi 3 1 1\nout 2\nret 3\n"
	// throughText: value 0 stays alive through a loop that makes another.
	throughText = "func 2\nblock\narg 0 0\njump 1\nblock\narg 1 1\nbranch 1 1 2\nblock\nret 0\n"
	// pastText: as throughText, but value 0 is not read any more.
	pastText = "func 2\nblock\narg 0 0\njump 1\nblock\narg 1 1\nbranch 1 1 2\nblock\nret 1\n"
)

type checkCase struct {
	name string
	text string
	mach string
	want int64
}

// checkCases asks Check with as many registers as the machine program has, and the oracles too.
func checkCases(t *testing.T, cases []checkCase) {
	t.Helper()
	d := dice(70)
	for _, c := range cases {
		f, m := mustParse(t, c.text), machOf(c.mach)
		if got := impl.Check(f, m, m.Regs); got != c.want {
			t.Errorf("%s: %d, want %d", c.name, got, c.want)
		}
		checkChecked(t, &d, f, m, m.Regs)
	}
}

func TestCheckStraight(t *testing.T) {
	checkCases(t, []checkCase{
		{"as few registers as can be", addText, "mach 2\nblock\nconst 0 4\nconst 1 5\nadd 0 0 1\nret 0\n", 0},
		{"the result in the other operand", addText, "mach 2\nblock\nconst 0 4\nconst 1 5\nadd 1 0 1\nret 1\n", 0},
		{"a register for each", addText, "mach 64\nblock\nconst 63 4\nconst 0 5\nadd 17 63 0\nret 17\n", 0},
		{"operands turned round", addText, "mach 2\nblock\nconst 0 4\nconst 1 5\nadd 0 1 0\nret 0\n", 4},
		{"instructions turned round", addText, "mach 2\nblock\nconst 1 5\nconst 0 4\nadd 0 0 1\nret 0\n", 3},
		{"another register returned", addText, "mach 2\nblock\nconst 0 4\nconst 1 5\nadd 0 0 1\nret 1\n", 4},
		{"a register written too early", addText, "mach 2\nblock\nconst 0 4\nconst 0 5\nadd 0 0 0\nret 0\n", 4},
		{"a register never written", addText, "mach 3\nblock\nconst 0 4\nconst 1 5\nadd 0 2 1\nret 0\n", 4},
		{"a copy first of all", addText, "mach 2\nblock\nmove 1 0\nput 0\nget 1\nconst 0 4\nconst 1 5\nadd 0 0 1\nret 0\n", 0},
		{"copies between", addText, "mach 3\nblock\nconst 0 4\nmove 2 0\nconst 0 5\nadd 1 2 0\nret 1\n", 0},
		{"a copy ahead of the end", addText, "mach 2\nblock\nconst 0 4\nconst 1 5\nadd 0 0 1\nmove 1 0\nret 1\n", 0},
		{"a copy ahead of the end that spoils it", addText, "mach 2\nblock\nconst 0 4\nconst 1 5\nadd 0 0 1\nmove 0 1\nret 0\n", 4},
		{"copies to themselves", addText, "mach 2\nblock\nconst 0 4\nmove 0 0\nconst 1 5\nmove 1 1\nadd 0 0 1\nmove 0 0\nret 0\n", 0},
		{"a swap by the scratch", addText, "mach 2\nblock\nconst 1 4\nconst 0 5\nput 0\nmove 0 1\nget 1\nadd 0 0 1\nret 0\n", 0},
		{"two copies of the swap turned round", addText, "mach 2\nblock\nconst 1 4\nconst 0 5\nmove 0 1\nput 0\nget 1\nadd 0 0 1\nret 0\n", 4},
		{"the swap without put", addText, "mach 2\nblock\nconst 1 4\nconst 0 5\nmove 0 1\nget 1\nadd 0 0 1\nret 0\n", 4},
		{"the swap without get", addText, "mach 2\nblock\nconst 1 4\nconst 0 5\nput 0\nmove 0 1\nadd 0 0 1\nret 0\n", 4},
		{"kept in the scratch", addText, "mach 2\nblock\nconst 0 4\nput 0\nconst 0 5\nmove 1 0\nget 0\nadd 0 0 1\nret 0\n", 0},
		{"the scratch taken twice", addText, "mach 3\nblock\nconst 0 4\nput 0\nget 1\nconst 1 5\nget 2\nadd 0 2 1\nret 0\n", 0},
		{"the scratch filled anew", addText, "mach 2\nblock\nconst 0 4\nput 0\nconst 1 5\nput 1\nget 0\nadd 0 0 1\nret 0\n", 4},
		{"the scratch is not the register behind the last", addText, "mach 64\nblock\nconst 63 4\nconst 62 5\nput 62\nadd 63 63 62\nget 0\nret 63\n", 0},
		{"never read, in a register of its own", "func 2\nblock\nconst 0 1\nconst 1 2\nret 1\n", "mach 2\nblock\nconst 0 1\nconst 1 2\nret 1\n", 0},
		{"never read, written over", "func 2\nblock\nconst 0 1\nconst 1 2\nret 1\n", "mach 1\nblock\nconst 0 1\nconst 0 2\nret 0\n", 0},
		{"never read, but it writes over another", "func 2\nblock\nconst 0 1\nconst 1 2\nret 0\n", "mach 1\nblock\nconst 0 1\nconst 0 2\nret 0\n", 4},
		{"never read, made over another that was copied", "func 2\nblock\nconst 0 1\nconst 1 2\nret 0\n", "mach 2\nblock\nconst 0 1\nmove 1 0\nconst 0 2\nret 1\n", 0},
		{"read twice by one instruction, from two registers", "func 2\nblock\narg 0 0\nmul 1 0 0\nret 1\n", "mach 2\nblock\narg 0 0\nmove 1 0\nmul 0 1 0\nret 0\n", 0},
		{"read twice by one instruction, one of them not it", "func 2\nblock\narg 0 0\nmul 1 0 0\nret 1\n", "mach 2\nblock\narg 0 0\nmul 0 1 0\nret 0\n", 4},
		{"a store", "func 2\nblock\narg 0 0\narg 1 1\nstore 0 1\nret 0\n", "mach 2\nblock\narg 1 0\narg 0 1\nstore 1 0\nret 1\n", 0},
		{"a store of the address at the number", "func 2\nblock\narg 0 0\narg 1 1\nstore 0 1\nret 0\n", "mach 2\nblock\narg 1 0\narg 0 1\nstore 0 1\nret 1\n", 4},
		{"a store writes no register", "func 2\nblock\narg 1 0\narg 0 1\nstore 1 0\nout 0\nret 0\n", "mach 2\nblock\narg 1 0\narg 0 1\nstore 1 0\nout 0\nret 0\n", 0},
		{"a load", "func 2\nblock\narg 0 0\nload 1 0\nout 0\nret 1\n", "mach 2\nblock\narg 1 0\nload 0 1\nout 1\nret 0\n", 0},
		{"a load into its address, which is read later", "func 2\nblock\narg 0 0\nload 1 0\nout 0\nret 1\n", "mach 1\nblock\narg 0 0\nload 0 0\nout 0\nret 0\n", 4},
		{"the same constant twice is not the same value", "func 2\nblock\nconst 0 1\nconst 1 1\nstore 0 1\nret 1\n", "mach 2\nblock\nconst 0 1\nconst 1 1\nstore 1 0\nret 1\n", 4},
	})
}

func TestCheckEdges(t *testing.T) {
	checkCases(t, []checkCase{
		{"the copies in the blocks", joinText, "mach 1\nblock\narg 0 0\nbranch 0 1 2\nblock\nconst 0 5\njump 3\nblock\nconst 0 6\njump 3\nblock\nout 0\nret 0\n", 0},
		{"one edge without its copy", joinText, "mach 2\nblock\narg 0 0\nbranch 0 1 2\nblock\nconst 0 5\njump 3\nblock\nconst 1 6\njump 3\nblock\nout 0\nret 0\n", 4},
		{"an edge block for one edge", joinText, "mach 2\nblock\narg 0 0\nbranch 0 1 2\nblock\nconst 0 5\njump 3\nblock\nconst 1 6\njump 4\nblock\nout 0\nret 0\nblock\nmove 0 1\njump 3\n", 0},
		{"an edge block shared by jumps", joinText, "mach 2\nblock\narg 0 0\nbranch 0 1 2\nblock\nconst 0 5\njump 4\nblock\nconst 0 6\njump 4\nblock\nout 1\nret 1\nblock\nmove 1 0\njump 3\n", 0},
		{"a shared edge block that is good for one edge alone", joinText, "mach 2\nblock\narg 0 0\nbranch 0 1 2\nblock\nconst 0 5\njump 4\nblock\nconst 1 6\njump 4\nblock\nout 1\nret 1\nblock\nmove 1 0\njump 3\n", 4},
		{"a shared edge block that turns all round", joinText, "mach 3\nblock\narg 0 0\nbranch 0 1 2\nblock\nconst 0 5\njump 4\nblock\nconst 0 6\njump 4\nblock\nout 2\nret 2\nblock\nput 0\nmove 0 1\nmove 1 2\nget 2\njump 3\n", 0},
		{"an empty edge block", joinText, "mach 1\nblock\narg 0 0\nbranch 0 4 2\nblock\nconst 0 5\njump 3\nblock\nconst 0 6\njump 3\nblock\nout 0\nret 0\nblock\njump 1\n", 0},
		{"empty edge blocks everywhere, one shared", joinText, "mach 1\nblock\narg 0 0\nbranch 0 4 5\nblock\nconst 0 5\njump 6\nblock\nconst 0 6\njump 6\nblock\nout 0\nret 0\nblock\njump 1\nblock\njump 2\nblock\njump 3\n", 0},
		{"edge blocks not used", joinText, "mach 2\nblock\narg 0 0\nbranch 0 1 2\nblock\nconst 0 5\njump 3\nblock\nconst 0 6\njump 3\nblock\nout 0\nret 0\nblock\njump 0\nblock\nmove 0 1\nput 1\nget 0\njump 3\n", 0},
		{"the register read is spoiled in an edge block", joinText, "mach 2\nblock\narg 0 0\nbranch 0 1 2\nblock\nconst 0 5\njump 4\nblock\nconst 0 6\njump 3\nblock\nout 0\nret 0\nblock\nmove 0 1\njump 3\n", 4},
		{"the scratch across an edge", joinText, "mach 1\nblock\narg 0 0\nbranch 0 1 2\nblock\nconst 0 5\nput 0\njump 3\nblock\nconst 0 6\nput 0\njump 3\nblock\nget 0\nout 0\nret 0\n", 0},
		{"the scratch across one edge of two", joinText, "mach 1\nblock\narg 0 0\nbranch 0 1 2\nblock\nconst 0 5\nput 0\njump 3\nblock\nconst 0 6\njump 3\nblock\nget 0\nout 0\nret 0\n", 4},
		{"put in an edge block, got behind it", joinText, "mach 2\nblock\narg 0 0\nbranch 0 1 2\nblock\nconst 0 5\njump 4\nblock\nconst 0 6\nput 0\njump 3\nblock\nget 1\nout 1\nret 1\nblock\nput 0\nmove 0 1\njump 3\n", 0},
		{"put ahead of an edge block, got in it", joinText, "mach 2\nblock\narg 0 0\nbranch 0 1 2\nblock\nconst 0 5\nput 0\njump 4\nblock\nconst 1 6\nput 1\njump 4\nblock\nout 1\nret 1\nblock\nget 1\njump 3\n", 0},
		{"the scratch filled anew on the way", joinText, "mach 2\nblock\narg 0 0\nbranch 0 1 2\nblock\nconst 0 5\nput 0\njump 4\nblock\nconst 1 6\nput 1\njump 4\nblock\nout 1\nret 1\nblock\nput 0\nget 1\njump 3\n", 4},
		{"other arguments by other edges, plain", twinsText, "mach 4\nblock\narg 0 0\narg 1 1\nbranch 0 1 4\nblock\nbranch 1 2 5\nblock\nret 0\nblock\nout 2\nret 3\nblock\nmove 2 0\nmove 3 1\njump 3\nblock\nmove 2 1\nmove 3 1\njump 3\n", 0},
		{"other arguments by one edge block for both", twinsText, "mach 4\nblock\narg 0 0\narg 1 1\nbranch 0 1 4\nblock\nbranch 1 2 4\nblock\nret 0\nblock\nout 2\nret 3\nblock\nmove 2 0\nmove 3 1\njump 3\n", 4},
		{"other arguments by one edge block, made equal ahead of it", twinsText, "mach 4\nblock\narg 0 0\narg 1 1\nmove 2 0\nbranch 0 1 4\nblock\nmove 3 0\nmove 2 1\nbranch 1 2 4\nblock\nret 3\nblock\nout 2\nret 3\nblock\nmove 3 1\njump 3\n", 0},
		{"the edge blocks turned round", twinsText, "mach 4\nblock\narg 0 0\narg 1 1\nbranch 0 1 5\nblock\nbranch 1 2 4\nblock\nret 0\nblock\nout 2\nret 3\nblock\nmove 2 0\nmove 3 1\njump 3\nblock\nmove 2 1\nmove 3 1\njump 3\n", 4},
		{"a copy ahead of a branch that its register survives", twinsText, "mach 4\nblock\narg 0 0\narg 1 1\nmove 2 0\nmove 3 1\nbranch 0 1 3\nblock\nmove 2 1\nbranch 3 2 3\nblock\nret 0\nblock\nout 2\nret 3\n", 0},
		{"a copy ahead of a branch over its register", twinsText, "mach 4\nblock\narg 0 0\narg 1 1\nmove 2 0\nmove 3 1\nbranch 0 1 3\nblock\nmove 2 1\nmove 1 0\nbranch 1 2 3\nblock\nret 0\nblock\nout 2\nret 3\n", 4},
		{"one register for values that are the same", "func 4\nblock\narg 0 0\njump 1\nblock\nphi 1 0\nphi 2 0\nadd 3 1 2\nout 0\nret 3\n", "mach 2\nblock\narg 0 0\njump 1\nblock\nadd 1 0 0\nout 0\nret 1\n", 0},
		{"one register for phis with the same arguments", "func 5\nblock\narg 0 0\narg 1 1\nbranch 0 1 2\nblock\njump 3\nblock\njump 3\nblock\nphi 2 0 1\nphi 3 0 1\nsub 4 2 3\nret 4\n", "mach 2\nblock\narg 0 0\narg 1 1\nbranch 0 1 2\nblock\njump 3\nblock\nmove 0 1\njump 3\nblock\nsub 0 0 0\nret 0\n", 0},
		{"one register for phis with one other argument", "func 5\nblock\narg 0 0\narg 1 1\nbranch 0 1 2\nblock\njump 3\nblock\njump 3\nblock\nphi 2 0 1\nphi 3 0 0\nsub 4 2 3\nret 4\n", "mach 2\nblock\narg 0 0\narg 1 1\nbranch 0 1 2\nblock\njump 3\nblock\nmove 0 1\njump 3\nblock\nsub 0 0 0\nret 0\n", 4},
		{"written over on the way where it is not read", "func 2\nblock\narg 0 0\nbranch 0 1 2\nblock\nconst 1 5\nret 1\nblock\nret 0\n", "mach 1\nblock\narg 0 0\nbranch 0 1 2\nblock\nconst 0 5\nret 0\nblock\nret 0\n", 0},
		{"written over on a way to where it is read", "func 2\nblock\narg 0 0\nbranch 0 1 2\nblock\nconst 1 5\njump 2\nblock\nret 0\n", "mach 1\nblock\narg 0 0\nbranch 0 1 2\nblock\nconst 0 5\njump 2\nblock\nret 0\n", 4},
		{"no values", "func 0\nblock\njump 1\nblock\njump 1\n", "mach 1\nblock\nput 0\njump 1\nblock\nget 0\njump 2\nblock\nmove 0 0\njump 1\n", 0},
	})
}

func TestCheckLoops(t *testing.T) {
	checkCases(t, []checkCase{
		{"a value that stays", ringText, "mach 1\nblock\narg 0 0\njump 1\nblock\nout 0\njump 1\n", 0},
		{"a value that goes round, and all is it", ringText, "mach 2\nblock\narg 0 0\nmove 1 0\njump 1\nblock\nout 0\nput 0\nmove 0 1\nget 1\njump 1\n", 0},
		{"a value that goes round, and one is not it", ringText, "mach 2\nblock\narg 0 0\njump 1\nblock\nout 0\nput 0\nmove 0 1\nget 1\njump 1\n", 4},
		{"a value that goes there and back within the block", ringText, "mach 2\nblock\narg 0 0\njump 1\nblock\nout 0\nput 0\nmove 0 1\nget 1\nmove 0 1\njump 1\n", 0},
		{"the scratch round the loop", ringText, "mach 1\nblock\narg 0 0\nput 0\njump 1\nblock\nget 0\nout 0\njump 1\n", 0},
		{"the scratch round the loop, filled with it again", ringText, "mach 2\nblock\narg 0 0\nput 0\njump 1\nblock\nget 1\nout 1\nput 1\njump 1\n", 0},
		{"the scratch round the loop, filled with something else", ringText, "mach 2\nblock\narg 0 0\nput 0\njump 1\nblock\nget 0\nout 0\nput 1\njump 1\n", 4},
		{"an edge block back to its own block", ringText, "mach 2\nblock\narg 0 0\njump 1\nblock\nout 0\nmove 1 0\njump 2\nblock\nmove 0 1\njump 1\n", 0},
		{"the same edge block into the loop and round it", ringText, "mach 2\nblock\narg 0 0\nmove 1 0\njump 2\nblock\nout 0\nmove 1 0\njump 2\nblock\nmove 0 1\njump 1\n", 0},
		{"the same edge block, where the way in is not ready", ringText, "mach 2\nblock\narg 0 0\njump 2\nblock\nout 0\nmove 1 0\njump 2\nblock\nmove 0 1\njump 1\n", 4},
		{"a loop beside a value", throughText, "mach 2\nblock\narg 0 0\njump 1\nblock\narg 1 1\nbranch 1 1 2\nblock\nret 0\n", 0},
		{"a loop over a value", throughText, "mach 1\nblock\narg 0 0\njump 1\nblock\narg 0 1\nbranch 0 1 2\nblock\nret 0\n", 4},
		{"a loop over a value that is saved again in each round", throughText, "mach 1\nblock\narg 0 0\nput 0\njump 1\nblock\narg 0 1\nbranch 0 1 3\nblock\nret 0\nblock\nget 0\njump 2\n", 0},
		{"a loop over a value that is not read any more", pastText, "mach 1\nblock\narg 0 0\njump 1\nblock\narg 0 1\nbranch 0 1 2\nblock\nret 0\n", 0},
		{"a loop with copies that nothing reads", pastText, "mach 2\nblock\narg 0 0\njump 1\nblock\nmove 0 1\nput 0\narg 1 1\nget 0\nbranch 1 3 2\nblock\nret 1\nblock\nmove 1 0\njump 1\n", 0},
		{"a swap of phis", swapText, "mach 3\nblock\narg 0 0\nconst 1 1\njump 1\nblock\nless 2 0 1\nbranch 2 2 3\nblock\nout 0\nout 1\nret 0\nblock\nput 0\nmove 0 1\nget 1\njump 1\n", 0},
		{"a swap of phis by a third register", swapText, "mach 3\nblock\narg 0 0\nconst 1 1\njump 1\nblock\nless 2 0 1\nbranch 2 2 3\nblock\nout 0\nout 1\nret 0\nblock\nmove 2 0\nmove 0 1\nmove 1 2\njump 1\n", 0},
		{"phis one after another in place of at once", swapText, "mach 3\nblock\narg 0 0\nconst 1 1\njump 1\nblock\nless 2 0 1\nbranch 2 2 3\nblock\nout 0\nout 1\nret 0\nblock\nmove 0 1\nmove 1 0\njump 1\n", 4},
		{"the swap left out", swapText, "mach 3\nblock\narg 0 0\nconst 1 1\njump 1\nblock\nless 2 0 1\nbranch 2 2 3\nblock\nout 0\nout 1\nret 0\nblock\njump 1\n", 4},
		{"the swap on the wrong edge too", swapText, "mach 3\nblock\narg 0 0\nconst 1 1\njump 3\nblock\nless 2 0 1\nbranch 2 2 3\nblock\nout 0\nout 1\nret 0\nblock\nput 0\nmove 0 1\nget 1\njump 1\n", 4},
		{"the swap on both edges, and the first turned round ahead", swapText, "mach 3\nblock\narg 1 0\nconst 0 1\njump 3\nblock\nless 2 0 1\nbranch 2 2 3\nblock\nout 0\nout 1\nret 0\nblock\nput 0\nmove 0 1\nget 1\njump 1\n", 0},
		{"the sum", sumText, "mach 5\nblock\narg 0 0\nconst 1 0\nconst 2 1\nmove 3 2\njump 1\nblock\nless 4 0 3\nbranch 4 3 2\nblock\nadd 1 1 3\nadd 3 3 2\njump 1\nblock\nout 1\nret 1\n", 0},
		{"the sum without its copy", sumText, "mach 5\nblock\narg 0 0\nconst 1 0\nconst 2 1\njump 1\nblock\nless 4 0 3\nbranch 4 3 2\nblock\nadd 1 1 3\nadd 3 3 2\njump 1\nblock\nout 1\nret 1\n", 4},
		{"the sum with four registers and the scratch", sumText, "mach 4\nblock\narg 0 0\nput 0\nconst 1 0\nconst 2 1\nmove 3 2\njump 1\nblock\nget 0\nless 0 0 3\nbranch 0 3 2\nblock\nadd 1 1 3\nadd 3 3 2\njump 1\nblock\nout 1\nret 1\n", 0},
		{"the sum, with another counter in the second round", sumText, "mach 5\nblock\narg 0 0\nconst 1 0\nconst 2 1\nmove 3 2\njump 1\nblock\nless 4 0 3\nbranch 4 3 2\nblock\nadd 1 1 3\nadd 2 3 2\njump 1\nblock\nout 1\nret 1\n", 4},
	})
}

// A value stands in the first registers, and all registers and the scratch go round: what is read in round i is register i of the start.
func TestCheckRoundAllCells(t *testing.T) {
	f := mustParse(t, ringText)
	for filled := int64(1); filled <= impl.MaxRegs+1; filled++ {
		m := impl.Mach{Regs: impl.MaxRegs, Blocks: make([]impl.MBlock, 2)}
		first, ring := []impl.Instr{{Op: impl.OpArg}}, []impl.Instr{{Op: impl.OpOut}}
		for r := int64(1); r < min(filled, impl.MaxRegs); r++ {
			first = append(first, impl.Instr{Op: impl.OpMove, Dst: r, A: r - 1})
		}
		if filled > impl.MaxRegs {
			first = append(first, impl.Instr{Op: impl.OpPut})
		}
		for r := int64(0); r+1 < impl.MaxRegs; r++ {
			ring = append(ring, impl.Instr{Op: impl.OpMove, Dst: r, A: r + 1})
		}
		ring = append(ring, impl.Instr{Op: impl.OpGet, Dst: impl.MaxRegs - 1}, impl.Instr{Op: impl.OpPut})
		m.Blocks[0] = impl.MBlock{Instrs: first, Term: impl.Term{Kind: impl.TermJump, To: 1}}
		m.Blocks[1] = impl.MBlock{Instrs: ring, Term: impl.Term{Kind: impl.TermJump, To: 1}}
		want := int64(impl.CheckConflict)
		if filled > impl.MaxRegs {
			want = impl.CheckGood
		}
		if got := impl.Check(f, m, impl.MaxRegs); got != want {
			t.Errorf("%d cells filled: %d, want %d", filled, got, want)
		}
	}
}

func TestCheckShape(t *testing.T) {
	const good = "mach 2\nblock\narg 0 0\nbranch 0 1 4\nblock\nconst 0 5\njump 3\nblock\nconst 1 6\njump 5\nblock\nout 0\nret 0\nblock\njump 2\nblock\nmove 0 1\njump 3\n"
	checkCases(t, []checkCase{
		{"good", joinText, good, 0},
		{"a block too few", joinText, "mach 2\nblock\narg 0 0\nbranch 0 1 2\nblock\nconst 0 5\njump 1\nblock\nconst 1 6\njump 1\n", 3},
		{"one block", joinText, "mach 1\nblock\nret 0\n", 3},
	})
	for _, c := range []struct {
		name string
		line string
		now  string
		want int64
	}{
		{"an instruction left out", "const 0 5\n", "", 3},
		{"an instruction doubled", "const 0 5\n", "const 0 5\nconst 0 5\n", 3},
		{"an instruction more", "const 0 5\n", "const 0 5\nout 0\n", 3},
		{"another Op", "const 0 5\n", "arg 0 5\n", 3},
		{"another Op with the same fields", "out 0\n", "put 0\n", 3},
		{"a copy for the instruction", "const 0 5\n", "move 0 1\n", 3},
		{"another Imm", "const 0 5\n", "const 0 6\n", 3},
		{"another argument", "arg 0 0\n", "arg 0 1\n", 3},
		{"the only instruction left out", "arg 0 0\nbranch", "branch", 3},
		{"a branch for a jump", "jump 3\nblock\nconst 1", "branch 0 3 3\nblock\nconst 1", 3},
		{"a return for a jump", "jump 3\nblock\nconst 1", "ret 0\nblock\nconst 1", 3},
		{"a jump for a return", "ret 0", "jump 3", 3},
		{"a jump for a branch", "branch 0 1 4", "jump 1", 3},
		{"the branch turned round", "branch 0 1 4", "branch 0 4 1", 3},
		{"the branch turned round, without an edge block", "branch 0 1 4", "branch 0 2 1", 3},
		{"both ways to the same block", "branch 0 1 4", "branch 0 1 1", 3},
		{"both ways to the other block", "branch 0 1 4", "branch 0 2 4", 3},
		{"an edge block to the other block", "branch 0 1 4", "branch 0 1 5", 3},
		{"back to block 0", "jump 3\nblock\nconst 1", "jump 0\nblock\nconst 1", 3},
		{"to its own block", "jump 3\nblock\nconst 1", "jump 1\nblock\nconst 1", 3},
		{"around an edge block that does nothing", "branch 0 1 4", "branch 0 1 2", 0},
		{"around an edge block that copies", "jump 5", "jump 3", 4},
		{"an edge block with an instruction", "move 0 1\n", "move 0 1\nconst 1 5\n", 3},
		{"an edge block with a store", "move 0 1\n", "store 0 1\nmove 0 1\n", 3},
		{"an edge block with an output", "jump 2\n", "out 0\njump 2\n", 3},
		{"an edge block to another edge block", "block\njump 2\n", "block\njump 5\n", 3},
		{"an edge block to itself", "block\njump 2\n", "block\njump 4\n", 3},
		{"an edge block to block 0 that is used", "block\njump 2\n", "block\njump 0\n", 3},
		{"an edge block with a branch", "block\njump 2\n", "block\nbranch 0 2 2\n", 3},
		{"an edge block with a return", "block\njump 2\n", "block\nret 0\n", 3},
		{"a copy more in the edge block", "move 0 1\n", "move 1 1\nmove 0 1\nmove 1 0\n", 0},
		{"a copy less in the edge block", "move 0 1\n", "", 4},
		{"the copy turned round", "move 0 1\n", "move 1 0\n", 4},
		{"another edge block behind, to block 0", "move 0 1\njump 3\n", "move 0 1\njump 3\nblock\nput 0\njump 0\n", 0},
		{"another edge block behind, to no block of the function", "move 0 1\njump 3\n", "move 0 1\njump 3\nblock\nput 0\njump 6\n", 3},
		{"another edge block behind, with a return", "move 0 1\njump 3\n", "move 0 1\njump 3\nblock\nret 0\n", 3},
		{"another edge block behind, with an instruction", "move 0 1\njump 3\n", "move 0 1\njump 3\nblock\nout 0\njump 3\n", 3},
		{"a conflict as well", "out 0\n", "out 1\nout 1\n", 3},
		{"a conflict alone", "out 0\n", "out 1\n", 4},
	} {
		if strings.Count(good, c.line) != 1 {
			t.Fatalf("%s: %q is not there once", c.name, c.line)
		}
		checkCases(t, []checkCase{{c.name, joinText, strings.Replace(good, c.line, c.now, 1), c.want}})
	}
}

// The refusals come in their order, whatever else is wrong.
func TestCheckOrder(t *testing.T) {
	f := mustParse(t, addText)
	good := machOf("mach 2\nblock\nconst 0 4\nconst 1 5\nadd 0 0 1\nret 0\n")
	shape := machOf("mach 2\nblock\nconst 0 4\nret 1\n")
	conflict := machOf("mach 2\nblock\nconst 0 4\nconst 1 5\nadd 0 0 1\nret 1\n")
	invalid := machOf("mach 2\nblock\nconst 0 4\nconst 1 5\nadd 0 0 1\nret 2\n")
	for k, want := range map[int64]int64{math.MinInt64: 2, -1: 2, 0: 2, 1: 2, 2: 0, 3: 0, 63: 0, 64: 0, 65: 2, 66: 2, math.MaxInt64: 2} {
		if got := impl.Check(f, good, k); got != want {
			t.Errorf("good with %d: %d, want %d", k, got, want)
		}
		for code, m := range map[int64]impl.Mach{3: shape, 4: conflict} {
			if got := impl.Check(f, m, k); want == 0 && got != code || want != 0 && got != want {
				t.Errorf("code %d with %d: %d", code, k, got)
			}
		}
		if got := impl.Check(f, invalid, k); got != 2 {
			t.Errorf("not valid with %d: %d", k, got)
		}
		if got := impl.Check(f, impl.Mach{}, k); got != 2 {
			t.Errorf("no machine program with %d: %d", k, got)
		}
	}
	refused := append(wrongFuncs(t),
		mustParse(t, "func 1\nblock\nconst 0 1\nret 0\nblock\nret 0\n"),
		mustParse(t, "func 1\nblock\nadd 0 0 0\nret 0\n"),
		mustParse(t, "func 2\nblock\nconst 0 1\nbranch 0 1 2\nblock\nconst 1 1\njump 2\nblock\nret 1\n"))
	for i, g := range refused {
		for _, m := range []impl.Mach{good, shape, conflict, invalid, {}} {
			for _, k := range []int64{-1, 0, 2, 64, 65} {
				if got := impl.Check(g, m, k); got != 1 {
					t.Errorf("function %d with %d: %d", i, k, got)
				}
			}
		}
	}
}

// Machine programs that are not valid, each for one reason, and those of more registers than k.
func TestCheckMachRefused(t *testing.T) {
	f := mustParse(t, addText)
	for i, change := range []func(m *impl.Mach){
		func(m *impl.Mach) { m.Regs = 0 },
		func(m *impl.Mach) { m.Regs = -1 },
		func(m *impl.Mach) { m.Regs = 65 },
		func(m *impl.Mach) { m.Regs = 1 },
		func(m *impl.Mach) { m.Blocks = nil },
		func(m *impl.Mach) { m.Blocks[0].Instrs[0].Op = 14 },
		func(m *impl.Mach) { m.Blocks[0].Instrs[0].Op = 0 },
		func(m *impl.Mach) { m.Blocks[0].Instrs[0].A = 1 },
		func(m *impl.Mach) { m.Blocks[0].Instrs[0].Dst = 2 },
		func(m *impl.Mach) { m.Blocks[0].Instrs[0].Dst = math.MinInt64 },
		func(m *impl.Mach) { m.Blocks[0].Instrs[0].Imm = impl.MaxImm + 1 },
		func(m *impl.Mach) { m.Blocks[0].Instrs[2].B = -1 },
		func(m *impl.Mach) { m.Blocks[0].Term.Kind = 0 },
		func(m *impl.Mach) { m.Blocks[0].Term.Kind = 4 },
		func(m *impl.Mach) { m.Blocks[0].Term.A = 2 },
		func(m *impl.Mach) { m.Blocks[0].Term.To = 1 },
		func(m *impl.Mach) { m.Blocks = append(m.Blocks, impl.MBlock{}) },
		func(m *impl.Mach) {
			m.Blocks = append(m.Blocks, impl.MBlock{Term: impl.Term{Kind: impl.TermJump, To: 2}})
		},
		func(m *impl.Mach) {
			m.Blocks = append(m.Blocks, impl.MBlock{Term: impl.Term{Kind: impl.TermJump, To: -1}})
		},
		func(m *impl.Mach) {
			m.Blocks = append(m.Blocks, slices.Repeat([]impl.MBlock{{Term: impl.Term{Kind: impl.TermJump}}}, impl.MaxMachBlocks)...)
		},
		func(m *impl.Mach) {
			m.Blocks[0].Instrs = append(m.Blocks[0].Instrs, slices.Repeat([]impl.Instr{{Op: impl.OpPut}}, impl.MaxMachSize-3)...)
		},
	} {
		m := machOf("mach 2\nblock\nconst 0 4\nconst 1 5\nadd 0 0 1\nret 0\n")
		change(&m)
		for _, k := range []int64{2, 64} {
			if got := impl.Check(f, m, k); got != 2 {
				t.Errorf("change %d with %d: %d", i, k, got)
			}
		}
	}
	for regs := int64(2); regs <= 64; regs++ {
		m := machOf("mach 2\nblock\nconst 0 4\nconst 1 5\nadd 0 0 1\nret 0\n")
		m.Regs = regs
		for k := int64(1); k <= 64; k++ {
			if got := impl.Check(f, m, k); (got == 0) != (regs <= k) || got != 0 && got != 2 {
				t.Errorf("%d registers with %d: %d", regs, k, got)
			}
		}
	}
}

func TestCheckLimits(t *testing.T) {
	f := mustParse(t, addText)
	m := machOf("mach 2\nblock\nconst 0 4\nconst 1 5\nadd 0 0 1\nret 0\n")
	m.Blocks[0].Instrs = append(m.Blocks[0].Instrs, slices.Repeat([]impl.Instr{{Op: impl.OpPut}, {Op: impl.OpGet}}, (impl.MaxMachSize-4)/2)...)
	if got := impl.Check(f, m, 2); got != 0 || machSize(m) != impl.MaxMachSize {
		t.Errorf("as many copies as can be: %d", got)
	}
	m.Blocks[0].Instrs[3] = impl.Instr{Op: impl.OpMove, Dst: 0, A: 1}
	if got := impl.Check(f, m, 2); got != 4 {
		t.Errorf("as many copies as can be, the first of them wrong: %d", got)
	}
	m = machOf("mach 2\nblock\nconst 0 4\nconst 1 5\nadd 0 0 1\nret 0\n")
	m.Blocks = append(m.Blocks, slices.Repeat([]impl.MBlock{{Instrs: []impl.Instr{{Op: impl.OpPut}}, Term: impl.Term{Kind: impl.TermJump}}}, impl.MaxMachBlocks-1)...)
	if got := impl.Check(f, m, 2); got != 0 || len(m.Blocks) != impl.MaxMachBlocks {
		t.Errorf("as many blocks as can be: %d", got)
	}
	m.Blocks[impl.MaxMachBlocks-1].Term.To = 1
	if got := impl.Check(f, m, 2); got != 3 {
		t.Errorf("the last of them to another edge block: %d", got)
	}

	edges := manyEdges(impl.MaxBlocks)
	colors := slices.Repeat([]int64{1}, impl.MaxBlocks)
	colors[0] = 0
	m = impl.Lower(edges, colors, 2)
	if got := impl.Check(edges, m, 2); got != 0 {
		t.Errorf("an edge block for each edge: %d", got)
	}
	m.Blocks[impl.MaxMachBlocks-1].Instrs[0] = impl.Instr{Op: impl.OpGet}
	if got := impl.Check(edges, m, 2); got != 4 {
		t.Errorf("the last edge block wrong: %d", got)
	}
}

// One long edge block for all edges to the last block of a function.
func TestCheckSharedByMany(t *testing.T) {
	const n = impl.MaxBlocks
	f := impl.Func{Values: 1, Blocks: make([]impl.Block, n)}
	f.Blocks[0].Instrs = []impl.Instr{{Op: impl.OpArg}}
	for b := range int64(n - 2) {
		f.Blocks[b].Term = impl.Term{Kind: impl.TermBranch, To: b + 1, Else: n - 1}
	}
	f.Blocks[n-2].Term = impl.Term{Kind: impl.TermJump, To: n - 1}
	f.Blocks[n-1].Term = impl.Term{Kind: impl.TermRet}
	m := impl.Lower(f, []int64{0}, impl.MaxRegs)
	edge := impl.MBlock{Term: impl.Term{Kind: impl.TermJump, To: n - 1}}
	for i := range int64(15000) {
		edge.Instrs = append(edge.Instrs, impl.Instr{Op: impl.OpMove, Dst: (i + 1) % impl.MaxRegs, A: i % impl.MaxRegs})
	}
	m.Blocks = append(m.Blocks, edge)
	for b := range n - 2 {
		m.Blocks[b].Term.Else = n
	}
	m.Blocks[n-2].Term.To = n
	if got := impl.Check(f, m, impl.MaxRegs); got != 0 {
		t.Errorf("one edge block for all: %d", got)
	}
	m.Blocks[n].Instrs[14999].A = 5
	m.Blocks[n].Instrs[14999].Dst = 0
	m.Blocks[n].Instrs[0].A = 1
	if got := impl.Check(f, m, impl.MaxRegs); got != 4 {
		t.Errorf("one edge block for all, wrong: %d", got)
	}
}

// Many values that are all the same, in all registers, round a long loop: far more equations than a Lower ever has.
func TestCheckManyEquations(t *testing.T) {
	const values, loop = 200, 200
	f := impl.Func{Values: values + 1, Blocks: make([]impl.Block, loop+3)}
	f.Blocks[0] = impl.Block{Instrs: []impl.Instr{{Op: impl.OpArg}}, Term: impl.Term{Kind: impl.TermJump, To: 1}}
	for b := int64(1); b < loop+1; b++ {
		f.Blocks[b].Term = impl.Term{Kind: impl.TermJump, To: b + 1}
	}
	f.Blocks[loop+1].Term = impl.Term{Kind: impl.TermBranch, To: 2, Else: loop + 2}
	f.Blocks[loop+2].Term = impl.Term{Kind: impl.TermRet}
	for v := int64(1); v <= values; v++ {
		f.Blocks[1].Phis = append(f.Blocks[1].Phis, impl.Phi{Dst: v, Args: []int64{0}})
		f.Blocks[loop+2].Instrs = append(f.Blocks[loop+2].Instrs, impl.Instr{Op: impl.OpOut, A: v})
	}
	m := impl.Mach{Regs: impl.MaxRegs}
	for _, block := range f.Blocks {
		by := impl.MBlock{Instrs: slices.Clone(block.Instrs), Term: block.Term}
		for i := range by.Instrs {
			by.Instrs[i].A = 0
		}
		m.Blocks = append(m.Blocks, by)
	}
	for r := int64(0); r < impl.MaxRegs; r++ {
		m.Blocks[0].Instrs = append(m.Blocks[0].Instrs, impl.Instr{Op: impl.OpMove, Dst: r, A: 0})
		m.Blocks[loop].Instrs = append(m.Blocks[loop].Instrs, impl.Instr{Op: impl.OpMove, Dst: r, A: (r + 1) % impl.MaxRegs})
	}
	if got := impl.Check(f, m, impl.MaxRegs); got != 0 {
		t.Errorf("all the same: %d", got)
	}
	m.Blocks[0].Instrs[40].A = 41
	if got := impl.Check(f, m, impl.MaxRegs); got != 4 {
		t.Errorf("all the same but one: %d", got)
	}
}
