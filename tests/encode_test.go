package tests

import (
	"testing"

	"loop.example/s0031/impl"
)

func TestEncodeExamples(t *testing.T) {
	for _, text := range []string{sumText, allText, "func 0\nblock\njump 1\nblock\njump 1\n", "func 1\nblock\nconst 0 -7\nret 0\n"} {
		if got := string(impl.EncodeFunc(mustParse(t, text))); got != text {
			t.Errorf("%q", got)
		}
	}
}

func TestEncodeNotValid(t *testing.T) {
	f := mustParse(t, sumText)
	f.Blocks[0].Instrs[0].Imm = impl.MaxArgs
	g := mustParse(t, sumText)
	g.Blocks[3].Term.To = 1
	for _, h := range []impl.Func{{}, {Values: 1}, {Blocks: []impl.Block{{}}}, f, g} {
		if got := impl.EncodeFunc(h); len(got) != 0 {
			t.Errorf("%q", got)
		}
	}
}

func TestEncodeRoundTrip(t *testing.T) {
	d := dice(4)
	for range 10000 {
		f := rollFunc(&d)
		text := impl.EncodeFunc(f)
		p := impl.ParseFunc(text)
		if p.Code != 0 || p.Line != 0 || !sameFunc(p.Func, f) {
			t.Fatalf("%+v gives %q, and this code %d line %d %+v", f, text, p.Code, p.Line, p.Func)
		}
		if again := impl.EncodeFunc(p.Func); string(again) != string(text) {
			t.Fatalf("%q and %q", text, again)
		}
	}
}

// The longest lines that the limits leave room for.
func longestFunc() impl.Func {
	f := impl.Func{Values: impl.MaxValues, Blocks: make([]impl.Block, impl.MaxBlocks)}
	for b := range f.Blocks {
		f.Blocks[b].Term = impl.Term{Kind: impl.TermBranch, A: 1999, To: 998, Else: 999}
	}
	for v := range int64(impl.MaxValues) {
		f.Blocks[0].Instrs = append(f.Blocks[0].Instrs, impl.Instr{Op: impl.OpConst, Dst: v, Imm: -impl.MaxImm})
	}
	for range impl.MaxSize - impl.MaxBlocks - impl.MaxValues {
		f.Blocks[999].Instrs = append(f.Blocks[999].Instrs, impl.Instr{Op: impl.OpStore, A: 1999, B: 1999})
	}
	return f
}

func TestEncodeAtTheLimits(t *testing.T) {
	for _, f := range []impl.Func{longestFunc(), sized(362, 8), sized(1, 3979)} {
		if !impl.ValidFunc(f) {
			t.Fatal("the test's function is not valid")
		}
		text := impl.EncodeFunc(f)
		if len(text) == 0 || len(text) >= impl.MaxText {
			t.Errorf("%d bytes", len(text))
		}
		if p := impl.ParseFunc(text); p.Code != 0 || !sameFunc(p.Func, f) {
			t.Errorf("code %d line %d", p.Code, p.Line)
		}
	}
}

func TestEncodeMemory(t *testing.T) {
	f := mustParse(t, allText)
	for b := range f.Blocks {
		for i, p := range f.Blocks[b].Phis {
			f.Blocks[b].Phis[i].Args = append(make([]int64, 0, 8), p.Args...)
		}
	}
	before := cloneFunc(f)
	text := impl.EncodeFunc(f)
	if !sameFunc(f, before) {
		t.Error("the function was changed")
	}
	for i := range text {
		text[i] = 'x'
	}
	if string(impl.EncodeFunc(f)) != allText {
		t.Error("the answer is not new memory")
	}
}
