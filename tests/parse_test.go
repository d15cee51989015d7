package tests

import (
	"slices"
	"strconv"
	"strings"
	"testing"

	"loop.example/s0031/impl"
)

type parseCase struct {
	text string
	code int64
	line int64
}

func checkParse(t *testing.T, cases []parseCase) {
	t.Helper()
	for _, c := range cases {
		p := impl.ParseFunc([]byte(c.text))
		show := c.text[:min(len(c.text), 70)]
		if p.Code != c.code || p.Line != c.line {
			t.Errorf("%q: code %d line %d, want %d %d", show, p.Code, p.Line, c.code, c.line)
		}
		if p.Code != 0 && !sameFunc(p.Func, impl.Func{}) {
			t.Errorf("%q: a function beside an error: %+v", show, p.Func)
		}
		if p.Code == 0 && !impl.ValidFunc(p.Func) {
			t.Errorf("%q: accepted, but not valid", show)
		}
	}
}

func TestParseExample(t *testing.T) {
	f := mustParse(t, sumText)
	want := impl.Func{Values: 8, Blocks: []impl.Block{
		{Instrs: []impl.Instr{{Op: impl.OpArg}, {Op: impl.OpConst, Dst: 1}, {Op: impl.OpConst, Dst: 2, Imm: 1}}, Term: impl.Term{Kind: impl.TermJump, To: 1}},
		{Phis: []impl.Phi{{Dst: 3, Args: []int64{1, 6}}, {Dst: 4, Args: []int64{2, 7}}}, Instrs: []impl.Instr{{Op: impl.OpLess, Dst: 5, A: 0, B: 4}}, Term: impl.Term{Kind: impl.TermBranch, A: 5, To: 3, Else: 2}},
		{Instrs: []impl.Instr{{Op: impl.OpAdd, Dst: 6, A: 3, B: 4}, {Op: impl.OpAdd, Dst: 7, A: 4, B: 2}}, Term: impl.Term{Kind: impl.TermJump, To: 1}},
		{Instrs: []impl.Instr{{Op: impl.OpOut, A: 3}}, Term: impl.Term{Kind: impl.TermRet, A: 3}},
	}}
	if !sameFunc(f, want) {
		t.Errorf("%+v", f)
	}
}

func TestParseEveryWord(t *testing.T) {
	f := mustParse(t, allText)
	want := []impl.Instr{
		{Op: impl.OpConst, Dst: 0, Imm: -1000000000}, {Op: impl.OpArg, Dst: 1, Imm: 7},
		{Op: impl.OpAdd, Dst: 2, A: 0, B: 1}, {Op: impl.OpSub, Dst: 3, A: 0, B: 1}, {Op: impl.OpMul, Dst: 4, A: 0, B: 1},
		{Op: impl.OpDiv, Dst: 5, A: 0, B: 1}, {Op: impl.OpLess, Dst: 6, A: 0, B: 1},
		{Op: impl.OpLoad, Dst: 7, A: 0}, {Op: impl.OpStore, A: 0, B: 1}, {Op: impl.OpOut, A: 0},
	}
	if !slices.Equal(f.Blocks[0].Instrs, want) {
		t.Errorf("%+v", f.Blocks[0].Instrs)
	}
	if f.Blocks[0].Term != (impl.Term{Kind: impl.TermBranch, A: 6, To: 1, Else: 2}) || f.Blocks[1].Term != (impl.Term{Kind: impl.TermJump, To: 1}) || f.Blocks[2].Term != (impl.Term{Kind: impl.TermRet, A: 11}) {
		t.Errorf("%+v", f.Blocks)
	}
}

func TestParseWholeText(t *testing.T) {
	full := "func 1\nblock\nconst 0 0\n" + strings.Repeat("out 0\n", 16662)
	full += strings.Repeat("x", impl.MaxText-len(full)-1) + "\n"
	checkParse(t, []parseCase{
		{strings.Repeat("\n", impl.MaxText+1), impl.ErrTooLong, 0},
		{strings.Repeat("x", impl.MaxText+1), impl.ErrTooLong, 0},
		{sumText + strings.Repeat("\n", impl.MaxText+1-len(sumText)), impl.ErrTooLong, 0},
		{strings.Repeat("x", impl.MaxText), impl.ErrNoEnd, 0},
		{strings.Repeat("\n", impl.MaxText), impl.ErrHeader, 1},
		{full, impl.ErrWord, 16666},
		{"x" + full, impl.ErrTooLong, 0},
		{"", impl.ErrNoEnd, 0},
		{"x", impl.ErrNoEnd, 0},
		{strings.TrimSuffix(sumText, "\n"), impl.ErrNoEnd, 0},
		{sumText + " ", impl.ErrNoEnd, 0},
		{sumText + "\r", impl.ErrNoEnd, 0},
	})
}

// A function over the size in a text of exactly MaxText bytes gets as far as the last rule.
func TestParseLongestText(t *testing.T) {
	text := "func 1\nblock\nconst 0 0\nload 1 111\n" + strings.Repeat("out 0\n", 16660) + "ret 0\n"
	if len(text) != impl.MaxText {
		t.Fatalf("the test's text has %d bytes", len(text))
	}
	checkParse(t, []parseCase{{text, impl.ErrInvalid, 0}})
}

func TestParseHeader(t *testing.T) {
	for _, line := range []string{"", " ", "func", "func ", " func 1", "func  1", "func 1 ", "func 1 1", "func 00", "func 01", "func -1", "func +1", "func 10000", "func x", "func 1x", "func\t1", "Func 1", "block", "func 1\r", "func 1\x00", "func 1\xff"} {
		checkParse(t, []parseCase{{line + "\nblock \n", impl.ErrHeader, 1}})
	}
	checkParse(t, []parseCase{
		{"func 0\n", impl.ErrInvalid, 0},
		{"func 9999\n", impl.ErrInvalid, 0},
		{"func 9999\nblock \n", impl.ErrShape, 2},
	})
}

func TestParseShape(t *testing.T) {
	for _, line := range []string{"", " ", "  ", " block", "block ", "const  0 0", "const 0  0", "const 0 0 ", "const\t0 0", "out 0\r", "out \x7f", "out \x80", "out \x1f", "out 0\x00", "x\xff y"} {
		checkParse(t, []parseCase{{"func 1\nblock\n" + line + "\nconst 0 0\nret 0\n", impl.ErrShape, 3}})
	}
	checkParse(t, []parseCase{{"func 1\nblock\n~ !\n", impl.ErrWord, 3}, {"func 1\nblock\nout !\n", impl.ErrNumber, 3}, {"func 1\nblock\nout ~\n", impl.ErrNumber, 3}})
}

func TestParseWord(t *testing.T) {
	for _, line := range []string{"x", "Block", "blocks", "bloc", "0", "func 1", "func", "move 0 0", "put 0", "get 0", "mach 1", "-", "ret0", "const,0 0", "phi2 0 0"} {
		checkParse(t, []parseCase{{"func 1\nblock\n" + line + "\n", impl.ErrWord, 3}})
	}
}

func TestParseCount(t *testing.T) {
	counts := []struct {
		fields int
		words  []string
	}{
		{1, []string{"block"}},
		{2, []string{"out", "jump", "ret"}},
		{3, []string{"const", "arg", "load", "store"}},
		{4, []string{"branch", "add", "sub", "mul", "div", "less"}},
	}
	for _, c := range counts {
		for _, word := range c.words {
			for n := 1; n <= 7; n++ {
				want := int64(impl.ErrCount)
				if n == c.fields {
					want = impl.ErrNumber
				}
				if n == 1 && word == "block" {
					want = impl.ErrPlace
				}
				checkParse(t, []parseCase{{"func 1\nblock\n" + word + strings.Repeat(" x", n-1) + "\n", want, 3}})
			}
		}
	}
	for n := 1; n <= 7; n++ {
		want := int64(impl.ErrNumber)
		if n < 3 {
			want = impl.ErrCount
		}
		checkParse(t, []parseCase{{"func 1\nblock\nphi" + strings.Repeat(" x", n-1) + "\n", want, 3}})
	}
}

// Every field of every word is looked at: an index stands where an index ought to, a constant where a constant ought to.
func TestParseNumber(t *testing.T) {
	lines := []string{"phi D D", "phi D D D D", "const D 0", "const 0 N", "arg D 0", "arg 0 D", "add D 0 0", "add 0 D 0", "add 0 0 D", "sub D 0 0", "sub 0 D 0", "sub 0 0 D", "mul D 0 0", "mul 0 D 0", "mul 0 0 D", "div D 0 0", "div 0 D 0", "div 0 0 D", "less D 0 0", "less 0 D 0", "less 0 0 D", "load D 0", "load 0 D", "store D 0", "store 0 D", "out D", "jump D", "branch D 0 0", "branch 0 D 0", "branch 0 0 D", "ret D"}
	badIndex := []string{"-1", "+1", "00", "01", "10000", "99999", "0000", "1x", "x", "0x1", "1.0", "1e3", "-", "-0", "12a4", "18446744073709551616"}
	goodIndex := []string{"0", "1", "9", "10", "99", "100", "1000", "9999"}
	badConst := []string{"-0", "00", "01", "-01", "+1", "--1", "1-", "-", "x", "1000000001", "-1000000001", "9999999999", "-9999999999", "10000000000", "-10000000000", "1000000000x", "18446744073709551617", "1_000"}
	goodConst := []string{"0", "1", "-1", "9", "-9", "1000000000", "-1000000000", "999999999", "-999999999", "100000000"}
	for _, line := range lines {
		bad, good := badIndex, goodIndex
		if strings.Contains(line, "N") {
			bad, good = badConst, goodConst
		}
		for _, x := range bad {
			filled := strings.NewReplacer("D", x, "N", x).Replace(line)
			checkParse(t, []parseCase{{"func 1\nblock\n" + filled + "\n", impl.ErrNumber, 3}})
		}
		for _, x := range good {
			filled := strings.NewReplacer("D", x, "N", x).Replace(line)
			checkParse(t, []parseCase{{"func 1\nblock\n" + filled + "\nblock \n", impl.ErrShape, 4}})
		}
	}
}

func TestParseConstants(t *testing.T) {
	for _, n := range []int64{0, 1, -1, 7, -10, 999999999, 1000000000, -1000000000} {
		f := mustParse(t, "func 1\nblock\nconst 0 "+strconv.FormatInt(n, 10)+"\nret 0\n")
		if f.Blocks[0].Instrs[0].Imm != n {
			t.Errorf("%d was read as %d", n, f.Blocks[0].Instrs[0].Imm)
		}
	}
}

func TestParsePlace(t *testing.T) {
	words := []string{"phi 0 0", "const 0 0", "arg 0 0", "add 0 0 0", "sub 0 0 0", "mul 0 0 0", "div 0 0 0", "less 0 0 0", "load 0 0", "store 0 0", "out 0", "jump 1", "branch 0 1 2", "ret 0"}
	for i, line := range words {
		cases := []parseCase{
			{"func 1\n" + line + "\n", impl.ErrPlace, 2},
			{"func 1\nblock\nret 0\n" + line + "\n", impl.ErrPlace, 4},
			{"func 1\nblock\njump 1\nblock\nbranch 0 1 2\n" + line + "\n", impl.ErrPlace, 6},
		}
		if i > 0 && i < 11 {
			cases = append(cases,
				parseCase{"func 1\nblock\n" + line + "\nphi 0 0\n", impl.ErrPlace, 4},
				parseCase{"func 1\nblock\nphi 0 0\n" + line + "\nphi 0 0\n", impl.ErrPlace, 5})
		}
		if i < 11 {
			cases = append(cases,
				parseCase{"func 1\nblock\n" + line + "\nblock\n", impl.ErrPlace, 4},
				parseCase{"func 1\nblock\n" + line + "\n", impl.ErrPlace, 3},
				parseCase{"func 1\nblock\nret 0\nblock\n" + line + "\n", impl.ErrPlace, 5})
		}
		checkParse(t, cases)
	}
	checkParse(t, []parseCase{
		{"func 1\nblock\nblock\n", impl.ErrPlace, 3},
		{"func 1\nblock\n", impl.ErrPlace, 2},
		{"func 1\nblock\nret 0\nblock\n", impl.ErrPlace, 4},
		{"func 0\n", impl.ErrInvalid, 0},
	})
}

// Where a line has several faults the first of the table counts; among lines the first one.
func TestParseOrder(t *testing.T) {
	checkParse(t, []parseCase{
		{"x\nblock \n", impl.ErrHeader, 1},
		{"func 1\n x y\n", impl.ErrShape, 2},
		{"func 1\nblock  x\n", impl.ErrShape, 2},
		{"func 1\nout \xff\n", impl.ErrShape, 2},
		{"func 1\nx y z -\n", impl.ErrWord, 2},
		{"func 1\nphi x\n", impl.ErrCount, 2},
		{"func 1\nblock\nblock x\n", impl.ErrCount, 3},
		{"func 1\nret x x\n", impl.ErrCount, 2},
		{"func 1\nret x\n", impl.ErrNumber, 2},
		{"func 1\nblock\nconst 0 0\nphi 0 x\n", impl.ErrNumber, 4},
		{"func 1\nret 0\nblock \n", impl.ErrPlace, 2},
		{"func 1\nblock\nret x\nx\n\n", impl.ErrNumber, 3},
		{"func 1\nblock\nout\nret x\n", impl.ErrCount, 3},
		{"func 1\nblock\nout 0\n\n", impl.ErrShape, 4},
		{"func 9999\nblock\nconst 0 0\n", impl.ErrPlace, 3},
		{"func 9999\nblock\njump 0\nblock\n", impl.ErrPlace, 4},
		{"func 1\nblock\narg 0 9999\njump 0\n", impl.ErrInvalid, 0},
	})
}

func TestParseInvalid(t *testing.T) {
	for _, text := range []string{
		"func 1\nblock\narg 0 8\nret 0\n",
		"func 2\nblock\nconst 0 0\nret 0\n",
		"func 0\nblock\nconst 0 0\nret 0\n",
		"func 1\nblock\nconst 0 0\nconst 0 0\nret 0\n",
		"func 1\nblock\nconst 0 0\nret 1\n",
		"func 1\nblock\nconst 0 0\njump 0\n",
		"func 1\nblock\nconst 0 0\njump 1\n",
		"func 1\nblock\nconst 0 0\nbranch 0 1 1\nblock\nret 0\n",
		"func 1\nblock\nphi 0 0\nret 0\n",
		"func 2\nblock\nconst 0 0\njump 1\nblock\nphi 1 0 0\nret 0\n",
		"func 2\nblock\nconst 0 0\njump 1\nblock\nphi 1 2\nret 0\n",
		"func 0\nblock\nret 0\n",
	} {
		checkParse(t, []parseCase{{text, impl.ErrInvalid, 0}})
	}
	checkParse(t, []parseCase{
		{"func 0\nblock\njump 1\nblock\njump 1\n", 0, 0},
		{"func 1\nblock\nconst 0 0\nret 0\nblock\njump 1\n", 0, 0},
		{"func 1\nblock\nadd 0 0 0\nret 0\n", 0, 0},
	})
}

func TestParseLimits(t *testing.T) {
	blocks := func(n int) string {
		return "func 0\n" + strings.Repeat("block\njump 1\n", n)
	}
	values := func(n int) string {
		out := "func " + strconv.Itoa(n) + "\nblock\n"
		for i := range n {
			out += "const " + strconv.Itoa(i) + " 0\n"
		}
		return out + "ret 0\n"
	}
	size := func(n int) string {
		return "func 1\nblock\nconst 0 0\n" + strings.Repeat("out 0\n", n-2) + "ret 0\n"
	}
	checkParse(t, []parseCase{
		{blocks(impl.MaxBlocks), 0, 0}, {blocks(impl.MaxBlocks + 1), impl.ErrInvalid, 0},
		{values(impl.MaxValues), 0, 0}, {values(impl.MaxValues + 1), impl.ErrInvalid, 0},
		{size(impl.MaxSize), 0, 0}, {size(impl.MaxSize + 1), impl.ErrInvalid, 0},
	})
}

// Texts that are a few changes away from good ones, against the oracle.
func TestParseChangedTexts(t *testing.T) {
	d := dice(1)
	pieces := []string{"", " ", "\n", "0", "1", "9", "-", "x", "block\n", "phi 0 0\n", "ret 0\n", "out 0\n", "jump 1\n", "const 0 ", "10000", "\x00", "\x7f", "\xff", "\r"}
	seen := map[int64]int{}
	for range 30000 {
		text := []string{sumText, allText, string(impl.EncodeFunc(rollFunc(&d)))}[d.roll(3)]
		for range d.roll(3) {
			i := d.roll(len(text) + 1)
			j := min(len(text), i+d.roll(3))
			text = text[:i] + pieces[d.roll(len(pieces))] + text[j:]
		}
		if d.roll(4) == 0 {
			lines := strings.SplitAfter(text, "\n")
			i, j := d.roll(len(lines)), d.roll(len(lines))
			lines[i], lines[j] = lines[j], lines[i]
			text = strings.Join(lines, "")
		}
		code, line := oracleParse(text)
		seen[code]++
		p := impl.ParseFunc([]byte(text))
		if p.Code != code || p.Line != line {
			t.Fatalf("%q: code %d line %d, want %d %d", text, p.Code, p.Line, code, line)
		}
		if code == 0 && !sameFunc(p.Func, oracleBuild(strings.Split(strings.TrimSuffix(text, "\n"), "\n"))) {
			t.Fatalf("%q: read as %+v", text, p.Func)
		}
		if code != 0 && !sameFunc(p.Func, impl.Func{}) {
			t.Fatalf("%q: a function beside an error", text)
		}
	}
	for _, code := range []int64{0, 2, 3, 4, 5, 6, 7, 8, 9} {
		if seen[code] < 20 {
			t.Errorf("code %d came only %d times", code, seen[code])
		}
	}
}

func TestParseAnyBytes(t *testing.T) {
	d := dice(2)
	for range 5000 {
		text := []byte{}
		for range d.roll(60) {
			text = append(text, byte(d.roll(256)))
		}
		if d.roll(2) == 0 {
			text = append([]byte("func 1\n"), text...)
		}
		text = append(text, '\n')
		code, line := oracleParse(string(text))
		if p := impl.ParseFunc(text); p.Code != code || p.Line != line {
			t.Fatalf("%q: code %d line %d, want %d %d", text, p.Code, p.Line, code, line)
		}
	}
	if p := impl.ParseFunc(nil); p.Code != impl.ErrNoEnd || p.Line != 0 {
		t.Errorf("nil: %+v", p)
	}
}

// The function shares no memory with the text, and its lists none with each other.
func TestParseMemory(t *testing.T) {
	text := []byte(allText)
	f := impl.ParseFunc(text).Func
	if string(text) != allText {
		t.Error("the text was changed")
	}
	for i := range text {
		text[i] = 'x'
	}
	want := impl.ParseFunc([]byte(allText)).Func
	if !sameFunc(f, want) {
		t.Error("the function changed with the text")
	}
	for b := range f.Blocks {
		for range 3 {
			_ = append(f.Blocks[b].Instrs, impl.Instr{Op: 99})
			_ = append(f.Blocks[b].Phis, impl.Phi{Dst: 99})
			for _, p := range f.Blocks[b].Phis {
				_ = append(p.Args, 99, 99, 99)
			}
		}
	}
	if !sameFunc(f, want) {
		t.Error("two lists of the function share memory")
	}
}
