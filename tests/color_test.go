package tests

import (
	"math"
	"slices"
	"testing"

	"loop.example/s0031/impl"
)

// swapText: two phis that read each other in a loop.
const swapText = "func 5\nblock\narg 0 0\nconst 1 1\njump 1\nblock\nphi 2 0 3\nphi 3 1 2\nless 4 2 3\nbranch 4 2 1\nblock\nout 2\nout 3\nret 2\n"

// blockPoints has the sets of a function's places, block by block.
type blockPoints [][][]int64

func oracleBlockPoints(f impl.Func) blockPoints {
	points := blockPoints{}
	for b := range int64(len(f.Blocks)) {
		points = append(points, oraclePoints(f, b))
	}
	return points
}

// most: how many values the greatest set has.
func (p blockPoints) most() int64 {
	most := 0
	for _, set := range slices.Concat(p...) {
		most = max(most, len(set))
	}
	return int64(most)
}

// meets: which pairs of values some set of some block contains.
func (p blockPoints) meets(values int64) [][]bool {
	meets := make([][]bool, values)
	for v := range meets {
		meets[v] = make([]bool, values)
	}
	for _, set := range slices.Concat(p...) {
		for _, v := range set {
			for _, u := range set {
				meets[v][u] = meets[v][u] || v != u
			}
		}
	}
	return meets
}

func oracleMeets(f impl.Func) [][]bool { return oracleBlockPoints(f).meets(f.Values) }

// colors takes the definitions in the order of section 3.2, and for each the first colour that no earlier one of its set has.
func (p blockPoints) colors(f impl.Func) []int64 {
	d := dominanceByCuts(f)
	idom := []int64{}
	for b := range f.Blocks {
		idom = append(idom, oracleIdom(d, b))
	}
	known := map[int64]int64{}
	for _, b := range oracleOrder(idom, oracleReach(f, -1)) {
		for at, set := range p[b] {
			for _, v := range defsAt(f, spot{b, at}) {
				taken := []int64{}
				for _, u := range set {
					if color, ok := known[u]; ok {
						taken = append(taken, color)
					}
				}
				color := int64(0)
				for slices.Contains(taken, color) {
					color++
				}
				known[v] = color
			}
		}
	}
	colors := []int64{}
	for v := range f.Values {
		colors = append(colors, known[v])
	}
	return colors
}

func oracleProper(meets [][]bool, colors []int64, k int64) bool {
	if k < 0 || k > 2000 || len(colors) != len(meets) {
		return false
	}
	for v, color := range colors {
		if color < 0 || color > k-1 {
			return false
		}
		for u := range v {
			if meets[v][u] && colors[u] == color {
				return false
			}
		}
	}
	return true
}

// canColor tries all colourings with k colours, value after value. A colour not used yet is as good as any other such, so only the first of these is tried.
func canColor(meets [][]bool, colors []int64, k int64) bool {
	v := len(colors)
	if v == len(meets) {
		return true
	}
	used := int64(0)
	for _, color := range colors {
		used = max(used, color+1)
	}
	for color := range min(k, used+1) {
		fits := true
		for u := range v {
			fits = fits && !(meets[v][u] && colors[u] == color)
		}
		if fits && canColor(meets, append(slices.Clone(colors), color), k) {
			return true
		}
	}
	return false
}

// checkInterference holds it against the pairs of all sets.
func checkInterference(t *testing.T, f impl.Func, meets [][]bool) {
	t.Helper()
	want := [][]int64{}
	for v := range meets {
		others := []int64{}
		for u, meet := range meets[v] {
			if meet {
				others = append(others, int64(u))
			}
		}
		want = append(want, others)
	}
	got := impl.Interference(f)
	if !sameSets(got, want) {
		t.Fatalf("%s\nInterference: %v, want %v", impl.EncodeFunc(f), got, want)
	}
	for v, set := range got {
		for _, u := range set.V {
			if !slices.Contains(got[u].V, int64(v)) {
				t.Fatalf("%s\nInterference is not symmetric at %d and %d", impl.EncodeFunc(f), v, u)
			}
		}
	}
}

// checkColor asks of a strict function all that P8 and P9 say of its own colours.
func checkColor(t *testing.T, f impl.Func) {
	t.Helper()
	points := oracleBlockPoints(f)
	meets := points.meets(f.Values)
	checkInterference(t, f, meets)
	got := impl.Color(f)
	most := points.most()
	if want := points.colors(f); got.Code != 0 || got.Count != most || !slices.Equal(got.Colors, want) {
		t.Fatalf("%s\nColor: %+v, want %v, %d in all", impl.EncodeFunc(f), got, want, most)
	}
	if !oracleProper(meets, got.Colors, most) {
		t.Fatalf("%s\nColor: %v is no proper colouring with %d", impl.EncodeFunc(f), got.Colors, most)
	}
	for _, k := range []int64{-1, 0, most - 1, most, most + 1, impl.MaxValues, impl.MaxValues + 1} {
		want := k >= most && k <= impl.MaxValues
		if impl.ProperColoring(f, got.Colors, k) != want {
			t.Fatalf("%s\nProperColoring of %v with %d is not %v", impl.EncodeFunc(f), got.Colors, k, want)
		}
	}
}

func TestColorExamples(t *testing.T) {
	cases := []struct {
		name   string
		text   string
		colors []int64
		count  int64
	}{
		{"the sum", sumText, []int64{0, 1, 2, 1, 3, 4, 1, 3}, 5},
		{"phis that read each other", swapText, []int64{0, 1, 0, 1, 2}, 3},
		{"one value", "func 1\nblock\nconst 0 1\nret 0\n", []int64{0}, 1},
		{"no values", "func 0\nblock\njump 1\nblock\njump 1\n", []int64{}, 0},
		{"never used", "func 3\nblock\nconst 2 1\nconst 1 1\nconst 0 1\njump 1\nblock\njump 1\n", []int64{0, 0, 0}, 1},
		{"never used, beside one that is", "func 3\nblock\nconst 1 5\nconst 0 6\nconst 2 7\nret 1\n", []int64{1, 0, 1}, 2},
		{"phis never used", "func 4\nblock\nconst 0 1\njump 1\nblock\nphi 3 0\nphi 1 0\nphi 2 0\njump 2\nblock\njump 2\n", []int64{0, 1, 2, 0}, 3},
		{"a phi never used, beside its own argument", "func 2\nblock\nconst 0 1\njump 1\nblock\nphi 1 0\nret 0\n", []int64{0, 1}, 2},
		{"a phi in the place of its argument", "func 2\nblock\nconst 0 1\njump 1\nblock\nphi 1 0\nret 1\n", []int64{0, 0}, 1},
		{"defined where others are used for the last time", "func 4\nblock\nconst 0 1\nconst 1 2\nadd 2 0 1\nadd 3 2 2\nret 3\n", []int64{0, 1, 0, 0}, 2},
		{"the smallest colour is free again", "func 5\nblock\nconst 0 1\nconst 1 2\nconst 2 3\nout 0\nconst 3 4\nout 1\nconst 4 5\nstore 2 3\nret 4\n", []int64{0, 1, 2, 0, 1}, 3},
		{"a store defines nothing", "func 3\nblock\nconst 0 1\nconst 1 2\nstore 0 1\nconst 2 2\nret 2\n", []int64{0, 1, 0}, 2},
		{"a greater block above a smaller", "func 4\nblock\nconst 0 1\njump 2\nblock\nadd 1 0 3\nadd 2 1 3\nret 2\nblock\nconst 3 1\njump 1\n", []int64{0, 0, 0, 1}, 2},
		{"children reached in another order", "func 5\nblock\nconst 4 1\nbranch 4 3 1\nblock\nconst 0 1\nadd 1 0 4\nret 1\nblock\nadd 2 4 3\nret 2\nblock\nconst 3 1\njump 2\n", []int64{1, 0, 0, 1, 0}, 2},
		{"two that meet only in a later block", "func 4\nblock\nconst 0 1\njump 1\nblock\nconst 1 1\njump 2\nblock\nconst 2 1\njump 3\nblock\nadd 3 0 1\nret 3\n", []int64{0, 1, 2, 0}, 3},
		{"a value that stays through a loop", "func 4\nblock\nconst 0 1\nconst 1 2\njump 1\nblock\nconst 2 3\nbranch 0 1 2\nblock\nconst 3 4\nstore 3 1\nret 1\n", []int64{0, 1, 2, 0}, 3},
		{"a phi that reads itself", "func 2\nblock\nconst 0 1\njump 1\nblock\nphi 1 0 1\njump 1\n", []int64{0, 0}, 1},
	}
	for _, c := range cases {
		f := mustParse(t, c.text)
		if got := impl.Color(f); got.Code != 0 || got.Count != c.count || !slices.Equal(got.Colors, c.colors) {
			t.Errorf("%s: %+v", c.name, got)
		}
		checkColor(t, f)
		if c.count > 0 && canColor(oracleMeets(f), nil, c.count-1) {
			t.Errorf("%s: fewer colours would do", c.name)
		}
	}
}

func TestInterferenceExamples(t *testing.T) {
	cases := []struct {
		name string
		text string
		want [][]int64
	}{
		{"the sum", sumText, [][]int64{{1, 2, 3, 4, 5, 6, 7}, {0, 2}, {0, 1, 3, 4, 5, 6, 7}, {0, 2, 4, 5}, {0, 2, 3, 5, 6}, {0, 2, 3, 4}, {0, 2, 4, 7}, {0, 2, 6}}},
		{"phis that read each other", swapText, [][]int64{{1}, {0}, {3, 4}, {2, 4}, {2, 3}}},
		{"no values", "func 0\nblock\njump 1\nblock\njump 1\n", [][]int64{}},
		{"one value alone", "func 1\nblock\nconst 0 1\nret 0\n", [][]int64{{}}},
		{"never used", "func 2\nblock\nconst 0 1\nconst 1 1\njump 1\nblock\njump 1\n", [][]int64{{}, {}}},
		{"not strict: meeting where neither is defined", "func 3\nblock\nconst 0 1\nbranch 0 1 2\nblock\nconst 1 1\njump 3\nblock\nconst 2 1\njump 3\nblock\nstore 1 2\njump 3\n", [][]int64{{1, 2}, {0, 2}, {0, 1}}},
		{"not reachable: meeting only there", "func 4\nblock\nconst 0 1\nconst 3 1\nret 0\nblock\nconst 1 1\njump 2\nblock\nconst 2 1\nstore 1 2\nstore 1 3\nret 2\n", [][]int64{{3}, {2, 3}, {1, 3}, {0, 1, 2}}},
	}
	for _, c := range cases {
		f := mustParse(t, c.text)
		if got := impl.Interference(f); !sameSets(got, c.want) {
			t.Errorf("%s: %v", c.name, got)
		}
		checkInterference(t, f, oracleMeets(f))
	}
}

func TestColorByPaths(t *testing.T) {
	d := dice(31)
	for range 500 {
		checkColor(t, rollStrict(&d, 1+d.roll(9)))
	}
	for range 4 {
		checkColor(t, rollStrict(&d, 20+d.roll(15)))
	}
}

// Functions of any verdict: Interference answers for all that are valid, Color and ProperColoring refuse all that are not strict.
func TestColorAnyVerdict(t *testing.T) {
	d := dice(32)
	met := map[int64]int{}
	for range 1500 {
		f := rollFunc(&d)
		if d.roll(2) == 0 {
			f = rollStrict(&d, 1+d.roll(6))
			spoilUse(&d, &f)
		}
		checkInterference(t, f, oracleMeets(f))
		code := oracleVerdict(f, dominanceByCuts(f))
		met[code]++
		if got := impl.Color(f); got.Code != code || code != 0 && (len(got.Colors) > 0 || got.Count != 0) {
			t.Fatalf("%s\nverdict %d: Color %+v", impl.EncodeFunc(f), code, got)
		}
		if got := impl.ProperColoring(f, ownColors(f.Values), f.Values); got != (code == 0) {
			t.Fatalf("%s\nverdict %d: ProperColoring %v", impl.EncodeFunc(f), code, got)
		}
	}
	for _, code := range []int64{0, 10, 11} {
		if met[code] < 100 {
			t.Errorf("code %d met %d times", code, met[code])
		}
	}
}

// ownColors: each value has a colour of its own, so that only the function can be wrong.
func ownColors(n int64) []int64 {
	colors := []int64{}
	for v := range n {
		colors = append(colors, v)
	}
	return colors
}

func TestColorFewest(t *testing.T) {
	d := dice(33)
	met := map[int64]int{}
	for range 3000 {
		f := rollStrict(&d, 1+d.roll(5))
		if f.Values > 9 {
			continue
		}
		meets := oracleMeets(f)
		got := impl.Color(f)
		met[got.Count]++
		if canColor(meets, nil, got.Count-1) || !canColor(meets, nil, got.Count) {
			t.Fatalf("%s\n%d colours are not the fewest", impl.EncodeFunc(f), got.Count)
		}
	}
	for count := int64(1); count <= 6; count++ {
		if met[count] < 10 {
			t.Errorf("%d colours met %d times", count, met[count])
		}
	}
}

// Every list of colours from -1 to k of a small function, for every small k.
func TestProperAllSmall(t *testing.T) {
	d := dice(34)
	texts := []string{
		"func 3\nblock\nconst 0 1\nconst 1 1\nadd 2 0 1\nret 2\n",
		"func 4\nblock\nconst 0 1\nconst 1 2\njump 1\nblock\nphi 2 0 3\nphi 3 1 2\nbranch 2 1 2\nblock\nret 3\n",
	}
	small := []impl.Func{}
	for _, text := range texts {
		small = append(small, mustParse(t, text))
	}
	for len(small) < 40 {
		if f := rollStrict(&d, 1+d.roll(4)); f.Values <= 4 {
			small = append(small, f)
		}
	}
	for _, f := range small {
		meets := oracleMeets(f)
		for k := int64(0); k <= 4; k++ {
			eachList(int(f.Values), -1, k, func(colors []int64) {
				want := oracleProper(meets, colors, k)
				if impl.ProperColoring(f, colors, k) != want {
					t.Fatalf("%s\nProperColoring of %v with %d is not %v", impl.EncodeFunc(f), colors, k, want)
				}
			})
		}
	}
}

// One colour after another of a good colouring is changed to any other.
func TestProperOneChanged(t *testing.T) {
	d := dice(35)
	met := map[bool]int{}
	for range 100 {
		f := rollStrict(&d, 1+d.roll(8))
		meets := oracleMeets(f)
		good := impl.Color(f)
		for v := range good.Colors {
			for color := int64(-1); color <= good.Count; color++ {
				colors := slices.Clone(good.Colors)
				colors[v] = color
				want := oracleProper(meets, colors, good.Count)
				met[want]++
				if impl.ProperColoring(f, colors, good.Count) != want {
					t.Fatalf("%s\nProperColoring of %v with %d is not %v", impl.EncodeFunc(f), colors, good.Count, want)
				}
			}
		}
	}
	if met[true] < 500 || met[false] < 500 {
		t.Errorf("met %v", met)
	}
}

func TestProperEdges(t *testing.T) {
	sum := []int64{0, 1, 2, 1, 3, 4, 1, 3}
	high := []int64{1999, 1998, 1997, 1998, 1996, 1995, 1998, 1996}
	cases := []struct {
		name   string
		text   string
		colors []int64
		k      int64
		want   bool
	}{
		{"as many as there are", sumText, sum, 5, true},
		{"one below", sumText, sum, 4, false},
		{"none", sumText, sum, 0, false},
		{"below none", sumText, sum, -1, false},
		{"the smallest number", sumText, sum, math.MinInt64, false},
		{"at the limit", sumText, sum, 2000, true},
		{"above the limit", sumText, sum, 2001, false},
		{"the greatest number", sumText, sum, math.MaxInt64, false},
		{"the highest colours", sumText, high, 2000, true},
		{"the highest colours, with one colour less", sumText, high, 1999, false},
		{"a colour at k-1", sumText, []int64{0, 1, 2, 1, 3, 6, 1, 3}, 7, true},
		{"a colour at k", sumText, []int64{0, 1, 2, 1, 3, 7, 1, 3}, 7, false},
		{"a colour below 0", sumText, []int64{0, -1, 2, 1, 3, 4, 1, 3}, 5, false},
		{"a far colour", sumText, []int64{0, 1, 2, 1, 3, math.MaxInt64, 1, 3}, 5, false},
		{"a far colour below 0", sumText, []int64{math.MinInt64, 1, 2, 1, 3, 4, 1, 3}, 5, false},
		{"one too short", sumText, sum[:7], 5, false},
		{"one too long", sumText, append(slices.Clone(sum), 0), 5, false},
		{"no list", sumText, nil, 5, false},
		{"two that meet", sumText, []int64{0, 1, 2, 1, 3, 4, 3, 3}, 5, false},
		{"another that is good", sumText, []int64{0, 3, 2, 1, 3, 4, 1, 3}, 5, true},
		{"no values and no colours", "func 0\nblock\njump 1\nblock\njump 1\n", nil, 0, true},
		{"no values, at the limit", "func 0\nblock\njump 1\nblock\njump 1\n", []int64{}, 2000, true},
		{"no values, above the limit", "func 0\nblock\njump 1\nblock\njump 1\n", nil, 2001, false},
		{"no values, below none", "func 0\nblock\njump 1\nblock\njump 1\n", nil, -1, false},
		{"no values, one colour", "func 0\nblock\njump 1\nblock\njump 1\n", []int64{0}, 1, false},
		{"not reachable", "func 1\nblock\nconst 0 1\nret 0\nblock\nret 0\n", []int64{0}, 1, false},
		{"not strict", "func 1\nblock\nadd 0 0 0\nret 0\n", []int64{0}, 1, false},
	}
	for _, c := range cases {
		f := mustParse(t, c.text)
		if got := impl.ProperColoring(f, c.colors, c.k); got != c.want {
			t.Errorf("%s: %v", c.name, got)
		}
	}
}

func TestColorWrongInputs(t *testing.T) {
	refuse := func(name string, f impl.Func, code int64) {
		t.Helper()
		if got := impl.Color(f); got.Code != code || len(got.Colors) != 0 || got.Count != 0 {
			t.Errorf("%s: %+v", name, got)
		}
		for _, n := range []int64{0, 1, f.Values} {
			if n <= impl.MaxValues && impl.ProperColoring(f, ownColors(n), max(n, 1)) {
				t.Errorf("%s: ProperColoring with %d colours", name, n)
			}
		}
	}
	for _, f := range wrongFuncs(t) {
		refuse("not valid", f, 9)
		if got := impl.Interference(f); len(got) != 0 {
			t.Errorf("%v", got)
		}
	}
	for _, c := range []struct {
		text string
		code int64
	}{
		{"func 1\nblock\nconst 0 1\nret 0\nblock\nret 0\n", 10},
		{"func 1\nblock\nadd 0 0 0\nret 0\nblock\nret 0\n", 10},
		{"func 1\nblock\nadd 0 0 0\nret 0\n", 11},
		{"func 2\nblock\nconst 0 1\nbranch 0 1 2\nblock\nconst 1 1\njump 2\nblock\nret 1\n", 11},
		{"func 3\nblock\nconst 0 1\njump 1\nblock\nphi 1 2\nphi 2 1\nret 0\n", 11},
	} {
		f := mustParse(t, c.text)
		refuse(c.text, f, c.code)
		checkInterference(t, f, oracleMeets(f))
	}
}

// All values are alive at once: each has a colour of its own and interferes with all others.
func TestColorCrowd(t *testing.T) {
	f := crowd(impl.MaxValues)
	own := ownColors(impl.MaxValues)
	if got := impl.Color(f); got.Code != 0 || got.Count != impl.MaxValues || !slices.Equal(got.Colors, own) {
		t.Errorf("code %d, count %d", got.Code, got.Count)
	}
	if !impl.ProperColoring(f, own, impl.MaxValues) || impl.ProperColoring(f, own, impl.MaxValues-1) {
		t.Error("ProperColoring")
	}
	slices.Reverse(own)
	if !impl.ProperColoring(f, own, impl.MaxValues) {
		t.Error("ProperColoring, the other way round")
	}
	own[0] = own[impl.MaxValues-1]
	if impl.ProperColoring(f, own, impl.MaxValues) {
		t.Error("ProperColoring, the first as the last")
	}
	sets := impl.Interference(f)
	if len(sets) != impl.MaxValues {
		t.Fatalf("%d values", len(sets))
	}
	for v, set := range sets {
		if len(set.V) != impl.MaxValues-1 || !slices.IsSorted(set.V) || slices.Contains(set.V, int64(v)) {
			t.Fatalf("value %d interferes with %d others", v, len(set.V))
		}
	}
	f.Blocks[0].Instrs = append(f.Blocks[0].Instrs, impl.Instr{Op: impl.OpOut})
	if impl.Color(f).Code != 9 || len(impl.Interference(f)) != 0 || impl.ProperColoring(f, ownColors(impl.MaxValues), impl.MaxValues) {
		t.Error("one instruction too many")
	}
}

// A chain of the greatest length that defines a value in each block, each used in the block after the next: three are alive at once.
func TestColorLongChain(t *testing.T) {
	for _, names := range []string{"ascending", "descending"} {
		f := chain(impl.MaxBlocks, -1)
		f.Values = impl.MaxBlocks
		value := func(b int64) int64 {
			if names == "descending" {
				return impl.MaxBlocks - 1 - b
			}
			return b
		}
		want := make([]int64, impl.MaxBlocks)
		for b := range int64(impl.MaxBlocks) {
			f.Blocks[b].Instrs = []impl.Instr{{Op: impl.OpConst, Dst: value(b)}}
			if b >= 2 {
				f.Blocks[b].Instrs = append(f.Blocks[b].Instrs, impl.Instr{Op: impl.OpOut, A: value(b - 2)})
			}
			want[value(b)] = b % 3
		}
		last := &f.Blocks[impl.MaxBlocks-1]
		last.Instrs = append(last.Instrs, impl.Instr{Op: impl.OpOut, A: value(impl.MaxBlocks - 2)})
		last.Term.A = value(impl.MaxBlocks - 1)
		got := impl.Color(f)
		if got.Code != 0 || got.Count != 3 || !slices.Equal(got.Colors, want) {
			t.Errorf("%s: code %d, count %d", names, got.Code, got.Count)
		}
		sets := impl.Interference(f)
		for v := range int64(impl.MaxBlocks) {
			others := []int64{}
			for u := max(v-2, 0); u <= min(v+2, impl.MaxBlocks-1); u++ {
				if u != v {
					others = append(others, u)
				}
			}
			if !slices.Equal(sets[v].V, others) {
				t.Fatalf("%s: value %d interferes with %v", names, v, sets[v].V)
			}
		}
	}
	if f := chain(impl.MaxBlocks+1, -1); impl.Color(f).Code != 9 || len(impl.Interference(f)) != 0 {
		t.Error("one block too many")
	}
}

func TestColorOwnMemory(t *testing.T) {
	for _, text := range []string{sumText, swapText, diamondText} {
		f := mustParse(t, text)
		before := cloneFunc(f)
		checkOwn(t, "Interference", listsOf(impl.Interference(f))...)
		got := impl.Color(f)
		checkOwn(t, "Color", got.Colors)
		again := impl.Color(f)
		colors := slices.Clone(again.Colors)
		if !impl.ProperColoring(f, again.Colors, again.Count) || !slices.Equal(colors, again.Colors) {
			t.Error("the colours are changed")
		}
		if !sameFunc(f, before) {
			t.Errorf("the function is changed:\n%s", impl.EncodeFunc(before))
		}
	}
}
