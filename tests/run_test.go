package tests

import (
	"math"
	"slices"
	"strconv"
	"strings"
	"testing"

	"loop.example/s0031/impl"
)

func TestRunExample(t *testing.T) {
	f := mustParse(t, sumText)
	for n, want := range map[int64]impl.Outcome{
		3:  {Code: impl.OutReturn, Value: 6, Steps: 23, Trace: []int64{6}},
		0:  {Code: impl.OutReturn, Value: 0, Steps: 8, Trace: []int64{0}},
		-5: {Code: impl.OutReturn, Value: 0, Steps: 8, Trace: []int64{0}},
		10: {Code: impl.OutReturn, Value: 55, Steps: 58, Trace: []int64{55}},
	} {
		want.Heap = make([]int64, impl.HeapSize)
		if o := impl.RunFunc(f, []int64{n}, nil, 1000); !sameOutcome(o, want) {
			t.Errorf("argument %d: %+v", n, o)
		}
	}
}

// A run that needs exactly its fuel ends; with each step less it stops there.
func TestRunFuel(t *testing.T) {
	f := mustParse(t, sumText)
	for fuel := range int64(30) {
		want := impl.Outcome{Code: impl.OutFuel, Steps: fuel, Heap: make([]int64, impl.HeapSize)}
		if fuel >= 22 {
			want.Trace = []int64{6}
		}
		if fuel >= 23 {
			want.Code, want.Value, want.Steps = impl.OutReturn, 6, 23
		}
		if o := impl.RunFunc(f, []int64{3}, nil, fuel); !sameOutcome(o, want) {
			t.Errorf("fuel %d: %+v", fuel, o)
		}
	}
	trap := mustParse(t, "func 2\nblock\nconst 0 0\ndiv 1 0 0\nret 1\n")
	for fuel, want := range []impl.Outcome{{Code: impl.OutFuel}, {Code: impl.OutFuel, Steps: 1}, {Code: impl.OutTrap, Steps: 2}, {Code: impl.OutTrap, Steps: 2}} {
		want.Heap = make([]int64, impl.HeapSize)
		if o := impl.RunFunc(trap, nil, nil, int64(fuel)); !sameOutcome(o, want) {
			t.Errorf("a trap with fuel %d: %+v", fuel, o)
		}
	}
}

func TestRunFuelLimits(t *testing.T) {
	loop := mustParse(t, "func 0\nblock\njump 1\nblock\njump 1\n")
	for _, fuel := range []int64{0, 1, 2, impl.MaxFuel} {
		if o := impl.RunFunc(loop, nil, nil, fuel); !sameOutcome(o, impl.Outcome{Code: impl.OutFuel, Steps: fuel, Heap: make([]int64, impl.HeapSize)}) {
			t.Errorf("fuel %d: %+v", fuel, o)
		}
	}
	outs := mustParse(t, "func 1\nblock\nconst 0 7\njump 1\nblock\nout 0\njump 1\n")
	if o := impl.RunFunc(outs, nil, nil, impl.MaxFuel); o.Code != impl.OutFuel || o.Steps != impl.MaxFuel || len(o.Trace) != 29999 {
		t.Errorf("code %d, steps %d, %d put out", o.Code, o.Steps, len(o.Trace))
	}
}

func TestRunRefused(t *testing.T) {
	f := mustParse(t, sumText)
	broken := mustParse(t, sumText)
	broken.Blocks[0].Term.To = 0
	for _, o := range []impl.Outcome{
		impl.RunFunc(impl.Func{}, nil, nil, 10),
		impl.RunFunc(broken, nil, nil, 10),
		impl.RunFunc(f, make([]int64, impl.MaxArgs+1), nil, 10),
		impl.RunFunc(f, nil, make([]int64, impl.HeapSize+1), 10),
		impl.RunFunc(f, nil, nil, -1),
		impl.RunFunc(f, nil, nil, math.MinInt64),
		impl.RunFunc(f, nil, nil, impl.MaxFuel+1),
		impl.RunFunc(f, nil, nil, math.MaxInt64),
	} {
		if !sameOutcome(o, impl.Outcome{Code: impl.OutBad}) {
			t.Errorf("%+v", o)
		}
	}
	if o := impl.RunFunc(f, make([]int64, impl.MaxArgs), make([]int64, impl.HeapSize), impl.MaxFuel); o.Code != impl.OutReturn {
		t.Errorf("all limits met: %+v", o)
	}
}

func TestRunArguments(t *testing.T) {
	text := "func 8\nblock\n"
	for i := range impl.MaxArgs {
		n := strconv.Itoa(i)
		text += "arg " + n + " " + n + "\nout " + n + "\n"
	}
	f := mustParse(t, text+"ret 7\n")
	args := []int64{math.MinInt64, 2, -3, 4, 5, 6, 7, math.MaxInt64}
	for n := range len(args) + 1 {
		want := append(slices.Clone(args[:n]), make([]int64, len(args)-n)...)
		if o := impl.RunFunc(f, args[:n], nil, 100); !slices.Equal(o.Trace, want) || o.Value != want[7] || o.Steps != 17 {
			t.Errorf("%d arguments: %+v", n, o)
		}
	}
}

func TestRunArithmetic(t *testing.T) {
	const least, most = math.MinInt64, math.MaxInt64
	for _, c := range []struct {
		word    string
		a, b, z int64
	}{
		{"add", 2, 3, 5}, {"add", most, 1, least}, {"add", least, -1, most}, {"add", least, least, 0}, {"add", most, most, -2},
		{"sub", 2, 3, -1}, {"sub", least, 1, most}, {"sub", 0, least, least}, {"sub", most, -1, least},
		{"mul", 4, -3, -12}, {"mul", most, 2, -2}, {"mul", least, -1, least}, {"mul", 1 << 32, 1 << 32, 0}, {"mul", most, most, 1},
		{"div", 7, 2, 3}, {"div", -7, 2, -3}, {"div", 7, -2, -3}, {"div", -7, -2, 3}, {"div", least, -1, least}, {"div", least, 1, least}, {"div", most, -1, -most}, {"div", 0, 5, 0}, {"div", 1, most, 0},
		{"less", 1, 2, 1}, {"less", 2, 1, 0}, {"less", 2, 2, 0}, {"less", least, most, 1}, {"less", most, least, 0}, {"less", -1, 0, 1},
	} {
		f := mustParse(t, "func 3\nblock\narg 0 0\narg 1 1\n"+c.word+" 2 0 1\nret 2\n")
		if o := impl.RunFunc(f, []int64{c.a, c.b}, nil, 4); o.Code != impl.OutReturn || o.Value != c.z || o.Steps != 4 {
			t.Errorf("%s %d %d: %+v", c.word, c.a, c.b, o)
		}
	}
}

func TestRunTrap(t *testing.T) {
	f := mustParse(t, "func 3\nblock\narg 0 0\narg 1 1\nout 0\nstore 1 0\ndiv 2 0 1\nout 2\nret 2\n")
	for _, a := range []int64{0, 5, -5, math.MinInt64, math.MaxInt64} {
		heap := make([]int64, impl.HeapSize)
		heap[0] = a
		if o := impl.RunFunc(f, []int64{a, 0}, []int64{99}, 100); !sameOutcome(o, impl.Outcome{Code: impl.OutTrap, Steps: 5, Trace: []int64{a}, Heap: heap}) {
			t.Errorf("%d by 0: %+v", a, o)
		}
	}
}

func TestRunConstants(t *testing.T) {
	f := mustParse(t, "func 3\nblock\nconst 0 -1000000000\nconst 1 1000000000\nconst 2 0\nout 0\nout 1\nout 2\nret 0\n")
	if o := impl.RunFunc(f, nil, nil, 7); o.Code != impl.OutReturn || o.Value != -1000000000 || !slices.Equal(o.Trace, []int64{-1000000000, 1000000000, 0}) {
		t.Errorf("%+v", o)
	}
}

func TestRunHeapAddresses(t *testing.T) {
	load := mustParse(t, "func 2\nblock\narg 0 0\nload 1 0\nret 1\n")
	store := mustParse(t, "func 2\nblock\narg 0 0\narg 1 1\nstore 0 1\nret 1\n")
	heap := []int64{}
	for i := range int64(impl.HeapSize) {
		heap = append(heap, 100+i)
	}
	for address, cell := range map[int64]int64{0: 0, 1: 1, 31: 31, 32: 0, 33: 1, 63: 31, 64: 0, -1: 31, -2: 30, -31: 1, -32: 0, -33: 31, -64: 0, math.MaxInt64: 31, math.MinInt64: 0, math.MinInt64 + 1: 1, 1000000007: 7} {
		if o := impl.RunFunc(load, []int64{address}, heap, 3); o.Code != impl.OutReturn || o.Value != 100+cell || !slices.Equal(o.Heap, heap) {
			t.Errorf("load at %d: %+v", address, o)
		}
		want := slices.Clone(heap)
		want[cell] = 7
		if o := impl.RunFunc(store, []int64{address, 7}, heap, 4); o.Code != impl.OutReturn || !slices.Equal(o.Heap, want) {
			t.Errorf("store at %d: %+v", address, o)
		}
	}
}

func TestRunHeapStart(t *testing.T) {
	f := mustParse(t, "func 1\nblock\nconst 0 0\nret 0\n")
	for n := range impl.HeapSize + 1 {
		heap := make([]int64, n)
		for i := range heap {
			heap[i] = int64(i + 1)
		}
		want := append(slices.Clone(heap), make([]int64, impl.HeapSize-n)...)
		if o := impl.RunFunc(f, nil, heap, 2); !slices.Equal(o.Heap, want) {
			t.Errorf("%d entries: %v", n, o.Heap)
		}
	}
}

func TestRunBranch(t *testing.T) {
	f := mustParse(t, "func 3\nblock\narg 0 0\nbranch 0 1 2\nblock\nconst 1 11\nret 1\nblock\nconst 2 22\nret 2\n")
	for a, want := range map[int64]int64{0: 22, 1: 11, -1: 11, 2: 11, math.MinInt64: 11, 1 << 32: 11} {
		if o := impl.RunFunc(f, []int64{a}, nil, 4); o.Code != impl.OutReturn || o.Value != want || o.Steps != 4 {
			t.Errorf("%d: %+v", a, o)
		}
	}
}

// Phis read each other as they were before any of them is written, in a ring of three too.
func TestRunPhisAtOnce(t *testing.T) {
	f := mustParse(t, "func 9\nblock\nconst 0 1\nconst 1 2\nconst 2 3\narg 3 0\njump 1\nblock\nphi 4 0 5\nphi 5 1 6\nphi 6 2 4\nphi 7 3 8\nout 4\nout 5\nout 6\nsub 8 7 0\nbranch 8 1 2\nblock\nret 4\n")
	o := impl.RunFunc(f, []int64{4}, nil, 1000)
	if o.Code != impl.OutReturn || o.Value != 1 || !slices.Equal(o.Trace, []int64{1, 2, 3, 2, 3, 1, 3, 1, 2, 1, 2, 3}) || o.Steps != 5+4*5+1 {
		t.Errorf("%+v", o)
	}
}

// The arguments of a phi follow the numbers of the predecessors, whichever way and whenever the run comes.
func TestRunPhiOrder(t *testing.T) {
	f := mustParse(t, "func 7\nblock\narg 0 0\nconst 1 10\nconst 2 20\nconst 3 30\nbranch 0 4 2\nblock\nphi 4 1 2 3\nret 4\nblock\narg 5 1\nbranch 5 3 1\nblock\njump 1\nblock\njump 1\nblock\nconst 6 0\nret 6\n")
	for _, c := range [][3]int64{{1, 0, 30}, {0, 0, 10}, {0, 1, 20}} {
		if o := impl.RunFunc(f, c[:2], nil, 100); o.Code != impl.OutReturn || o.Value != c[2] {
			t.Errorf("%v: %+v", c, o)
		}
	}
}

// A block may be its own predecessor, and an unreachable block counts as one.
func TestRunPhiOfItself(t *testing.T) {
	f := mustParse(t, "func 5\nblock\narg 0 0\nconst 1 1\njump 2\nblock\njump 2\nblock\nphi 2 0 1 3\nsub 3 2 1\nout 3\nbranch 3 2 3\nblock\nadd 4 2 3\nret 4\n")
	if o := impl.RunFunc(f, []int64{3}, nil, 100); o.Code != impl.OutReturn || o.Value != 1 || !slices.Equal(o.Trace, []int64{2, 1, 0}) {
		t.Errorf("%+v", o)
	}
}

func TestRunUndefined(t *testing.T) {
	f := mustParse(t, "func 3\nblock\nadd 0 0 1\nout 2\njump 1\nblock\nconst 1 5\nconst 2 6\nret 0\n")
	if o := impl.RunFunc(f, nil, nil, 100); o.Code != impl.OutReturn || o.Value != 0 || !slices.Equal(o.Trace, []int64{0}) {
		t.Errorf("%+v", o)
	}
}

// Values keep what they had when a loop comes round: each of these adds to itself.
func TestRunValuesStay(t *testing.T) {
	f := mustParse(t, "func 2\nblock\nconst 0 3\njump 1\nblock\nadd 1 1 0\nout 1\njump 1\n")
	if o := impl.RunFunc(f, nil, nil, 11); o.Code != impl.OutFuel || !slices.Equal(o.Trace, []int64{3, 6, 9}) {
		t.Errorf("%+v", o)
	}
}

func TestRunAgainstOracle(t *testing.T) {
	d := dice(5)
	seen := map[int64]int{}
	for range 20000 {
		f := rollFunc(&d)
		args, heap, fuel := rollRun(&d)
		keptArgs, keptHeap, keptFunc := slices.Clone(args), slices.Clone(heap), cloneFunc(f)
		o := impl.RunFunc(f, args, heap, fuel)
		want := oracleRun(f, args, heap, fuel)
		seen[want.Code]++
		if !sameOutcome(o, want) {
			t.Fatalf("%s args %v heap %v fuel %d: %+v, want %+v", impl.EncodeFunc(f), args, heap, fuel, o, want)
		}
		if !slices.Equal(args, keptArgs) || !slices.Equal(heap, keptHeap) || !sameFunc(f, keptFunc) {
			t.Fatal("an argument was changed")
		}
	}
	for _, code := range []int64{impl.OutReturn, impl.OutTrap, impl.OutFuel} {
		if seen[code] < 500 {
			t.Errorf("code %d came only %d times", code, seen[code])
		}
	}
}

// As many phis as a loop can have, gone round as often as the fuel allows.
func TestRunManyPhis(t *testing.T) {
	text := "func 1332\nblock\nconst 0 1\njump 1\nblock\n"
	for v := 1; v < 1332; v++ {
		from := v%1331 + 1
		text += "phi " + strconv.Itoa(v) + " 0 " + strconv.Itoa(from) + "\n"
	}
	f := mustParse(t, text+"jump 1\n")
	if o := impl.RunFunc(f, nil, nil, impl.MaxFuel); o.Code != impl.OutFuel || o.Steps != impl.MaxFuel {
		t.Errorf("code %d, steps %d", o.Code, o.Steps)
	}
}

func TestRunMemory(t *testing.T) {
	f := mustParse(t, "func 1\nblock\nconst 0 1\nstore 0 0\nout 0\nret 0\n")
	heap := make([]int64, impl.HeapSize, 100)
	o := impl.RunFunc(f, nil, heap, 10)
	if heap[1] != 0 {
		t.Error("the heap of the caller was changed")
	}
	o.Heap[5] = 9
	o.Trace[0] = 9
	again := impl.RunFunc(f, nil, heap, 10)
	if heap[5] != 0 || again.Heap[5] != 0 || again.Trace[0] != 1 {
		t.Error("the outcome is not new memory")
	}
}

// Steps count instructions and ends alone; a long chain of blocks costs one step for each.
func TestRunSteps(t *testing.T) {
	text := "func 1\nblock\nconst 0 4\n"
	for b := 1; b < impl.MaxBlocks; b++ {
		text += "jump " + strconv.Itoa(b) + "\nblock\n"
	}
	f := mustParse(t, text+"ret 0\n")
	if o := impl.RunFunc(f, nil, nil, impl.MaxBlocks+1); o.Code != impl.OutReturn || o.Value != 4 || o.Steps != impl.MaxBlocks+1 {
		t.Errorf("%+v", o)
	}
	f = mustParse(t, "func 1\nblock\nconst 0 4\n"+strings.Repeat("out 0\n", impl.MaxSize-2)+"ret 0\n")
	if o := impl.RunFunc(f, nil, nil, impl.MaxSize); o.Code != impl.OutReturn || o.Steps != impl.MaxSize || len(o.Trace) != impl.MaxSize-2 {
		t.Errorf("code %d steps %d", o.Code, o.Steps)
	}
}
