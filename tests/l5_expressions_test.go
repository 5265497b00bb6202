package tests

import (
	"math/rand/v2"
	"slices"
	"strconv"
	"strings"
	"testing"

	"loop.example/g00889/impl"
)

// listOf returns the nodes that are written in a row: a field as its name, a node with two
// arguments as its sign or name, above as > with its Value, and a number as it is.
func listOf(words string) []impl.Node {
	list := []impl.Node{}
	for _, word := range strings.Fields(words) {
		list = append(list, nodeOf(word))
	}
	return list
}

func nodeOf(word string) impl.Node {
	switch word {
	case "a", "b", "c", "d":
		return impl.Node{Kind: 1, Value: int(word[0] - 'a')}
	case "+":
		return impl.Node{Kind: 3}
	case "-":
		return impl.Node{Kind: 4}
	case "min":
		return impl.Node{Kind: 5}
	case "max":
		return impl.Node{Kind: 6}
	}
	kind := 2
	digits, above := strings.CutPrefix(word, ">")
	if above {
		kind = 7
	}
	value, err := strconv.Atoi(digits)
	if err != nil {
		panic(word)
	}
	return impl.Node{Kind: kind, Value: value}
}

type writtenExpression struct {
	nodes string
	text  string
}

// writtenExpressions are expressions with their texts, of every kind of node as every argument
// of every other one, and at the limits.
func writtenExpressions() []writtenExpression {
	return []writtenExpression{
		{"a", "a"}, {"b", "b"}, {"c", "c"}, {"d", "d"},
		{"0", "0"}, {"7", "7"}, {"10", "10"}, {"999", "999"}, {"8999", "8999"}, {"9000", "9000"},
		{"a b +", "a+b"}, {"a b -", "a-b"}, {"a b min", "min(a,b)"}, {"a b max", "max(a,b)"},
		{"a >0", "above(a,0)"}, {"a >1", "above(a,1)"}, {"d >9000", "above(d,9000)"}, {"10 >10", "above(10,10)"},
		{"1 2 +", "1+2"}, {"0 9000 -", "0-9000"}, {"3 3 min", "min(3,3)"}, {"9000 0 max", "max(9000,0)"},
		{"a b 1 + -", "a-(b+1)"}, {"a b 1 - -", "a-(b-1)"}, {"a b 1 + +", "a+(b+1)"}, {"a b 1 - +", "a+(b-1)"},
		{"a b + 1 -", "a+b-1"}, {"a b - 1 -", "a-b-1"}, {"a b + 1 +", "a+b+1"}, {"a b - 1 +", "a-b+1"},
		{"a b 1 min -", "a-min(b,1)"}, {"a b 1 max +", "a+max(b,1)"}, {"a b >1 -", "a-above(b,1)"},
		{"a b min 1 -", "min(a,b)-1"}, {"a b max 1 +", "max(a,b)+1"}, {"a >2 1 -", "above(a,2)-1"},
		{"a b + c d - min", "min(a+b,c-d)"}, {"a b - c d + max", "max(a-b,c+d)"}, {"a b + >3", "above(a+b,3)"}, {"a b - >3", "above(a-b,3)"},
		{"a b min c d max min", "min(min(a,b),max(c,d))"}, {"a b max >5 c >6 max", "max(above(max(a,b),5),above(c,6))"},
		{"a >1 >0", "above(above(a,1),0)"}, {"a b min >1", "above(min(a,b),1)"},
		{"a b c d + + +", "a+(b+(c+d))"}, {"a b c d - - -", "a-(b-(c-d))"}, {"a b + c + d +", "a+b+c+d"},
		{"a b + c d + +", "a+b+(c+d)"}, {"a b - c d - -", "a-b-(c-d)"}, {"a b c + - d -", "a-(b+c)-d"}, {"a b c + d + -", "a-(b+c+d)"},
		{"a b c 1 - 2 - - min", "min(a,b-(c-1-2))"}, {"a b 1 - c min -", "a-min(b-1,c)"}, {"a b 1 - >2 -", "a-above(b-1,2)"},
		{"2 3 + a min 7 >5 -", "min(2+3,a)-above(7,5)"},
		{strings.Repeat("a ", 8) + strings.Repeat("+ ", 7), "a+(a+(a+(a+(a+(a+(a+a))))))"},
		{"a" + strings.Repeat(" a -", 7), "a-a-a-a-a-a-a-a"},
		{"d" + strings.Repeat(" 9000 max", 7), strings.Repeat("max(", 7) + "d" + strings.Repeat(",9000)", 7)},
		{"9000" + strings.Repeat(" >9000", 14), strings.Repeat("above(", 14) + "9000" + strings.Repeat(",9000)", 14)},
	}
}

// plainTree is an expression to hold the program's results against; a node has its arguments
// in left and right, of which above has only the left one.
type plainTree struct {
	node        impl.Node
	left, right *plainTree
}

func (p *plainTree) list() []impl.Node {
	list := []impl.Node{}
	for _, argument := range []*plainTree{p.left, p.right} {
		if argument != nil {
			list = append(list, argument.list()...)
		}
	}
	return append(list, p.node)
}

func (p *plainTree) text() string {
	value := strconv.Itoa(p.node.Value)
	switch p.node.Kind {
	case 1:
		return string(rune('a' + p.node.Value))
	case 2:
		return value
	case 5:
		return "min(" + p.left.text() + "," + p.right.text() + ")"
	case 6:
		return "max(" + p.left.text() + "," + p.right.text() + ")"
	case 7:
		return "above(" + p.left.text() + "," + value + ")"
	}
	right := p.right.text()
	if p.right.node.Kind == 3 || p.right.node.Kind == 4 {
		right = "(" + right + ")"
	}
	return p.left.text() + map[int]string{3: "+", 4: "-"}[p.node.Kind] + right
}

func (p *plainTree) depth() int {
	if p == nil {
		return 0
	}
	return 1 + max(p.left.depth(), p.right.depth())
}

// cell is the value of the expression in one place, for the cells of the fields there; it is
// false if there is none.
func (p *plainTree) cell(cells []int) (int, bool) {
	if p.node.Kind == 1 {
		if p.node.Value >= len(cells) {
			return 0, false
		}
		return cells[p.node.Value], true
	}
	if p.node.Kind == 2 {
		return p.node.Value, true
	}
	left, ok := p.left.cell(cells)
	if !ok {
		return 0, false
	}
	if p.node.Kind == 7 {
		if left != gone {
			left = map[bool]int{false: 0, true: 1}[left > p.node.Value]
		}
		return left, true
	}
	right, ok := p.right.cell(cells)
	if !ok {
		return 0, false
	}
	return combined(p.node.Kind-2, left, right)
}

// value is the value of the expression for fields of one shape; it is false if there is none.
func (p *plainTree) value(fields []impl.Field) (impl.Field, bool) {
	value := fieldOf(fields[0].Wide, fields[0].High)
	for i := range fields[0].Cells {
		cells := []int{}
		for _, f := range fields {
			cells = append(cells, f.Cells[i])
		}
		cell, ok := p.cell(cells)
		if !ok {
			return impl.Field{}, false
		}
		value.Cells = append(value.Cells, cell)
	}
	return value, true
}

// foldFirst folds the first node of the list that can be folded, and reports whether there is
// one.
func (p *plainTree) foldFirst() bool {
	for _, argument := range []*plainTree{p.left, p.right} {
		if argument != nil && argument.foldFirst() {
			return true
		}
	}
	if p.left == nil || p.left.node.Kind != 2 || p.right != nil && p.right.node.Kind != 2 {
		return false
	}
	value, ok := p.cell(nil)
	if !ok || value < 0 {
		return false
	}
	*p = plainTree{node: impl.Node{Kind: 2, Value: value}}
	return true
}

// smallTrees are all expressions of at most size nodes of some leaves and nodes with arguments,
// by their sizes.
func smallTrees(size int, leaves []impl.Node, inner []impl.Node) [][]*plainTree {
	all := [][]*plainTree{{}, {}}
	for _, leaf := range leaves {
		all[1] = append(all[1], &plainTree{node: leaf})
	}
	for n := 2; n <= size; n++ {
		made := []*plainTree{}
		for _, node := range inner {
			if node.Kind == 7 {
				for _, left := range all[n-1] {
					made = append(made, &plainTree{node: node, left: left})
				}
				continue
			}
			for i := 1; i < n-1; i++ {
				for _, left := range all[i] {
					for _, right := range all[n-1-i] {
						made = append(made, &plainTree{node: node, left: left, right: right})
					}
				}
			}
		}
		all = append(all, made)
	}
	return all
}

// someTree is a random expression of size nodes, of leaves that leaf makes.
func someTree(random *rand.Rand, size int, leaf func() impl.Node) *plainTree {
	if size == 1 {
		return &plainTree{node: leaf()}
	}
	if size == 2 || random.IntN(6) == 0 {
		above := impl.Node{Kind: 7, Value: []int{0, 1, 2, 5, 4500, 9000, random.IntN(9001)}[random.IntN(7)]}
		return &plainTree{node: above, left: someTree(random, size-1, leaf)}
	}
	left := 1 + random.IntN(size-2)
	return &plainTree{
		node:  impl.Node{Kind: 3 + random.IntN(4)},
		left:  someTree(random, left, leaf),
		right: someTree(random, size-1-left, leaf),
	}
}

// someLeaf makes fields and, as often as numbers says in tenths, numbers.
func someLeaf(random *rand.Rand, numbers int) func() impl.Node {
	return func() impl.Node {
		if random.IntN(10) >= numbers {
			return impl.Node{Kind: 1, Value: random.IntN(4)}
		}
		return impl.Node{Kind: 2, Value: []int{0, 1, 2, 3, 7, 4500, 8999, 9000, random.IntN(9001)}[random.IntN(9)]}
	}
}

func someFields(random *rand.Rand, count int) []impl.Field {
	wide, high := random.IntN(8)+1, random.IntN(8)+1
	size := []int{3, 100, 3000, 9000}[random.IntN(4)]
	fields := []impl.Field{}
	for range count {
		fields = append(fields, someField(random, wide, high, size))
	}
	return fields
}

// expectList fails unless a call succeeded with the nodes of a list.
func expectList(t *testing.T, what string, got []impl.Node, ok bool, want []impl.Node) {
	t.Helper()
	if !ok || !slices.Equal(got, want) {
		t.Errorf("%s = %v, %v, not %v", what, got, ok, want)
	}
}

// expectNoList fails unless a call failed without a list.
func expectNoList(t *testing.T, what string, got []impl.Node, ok bool) {
	t.Helper()
	if ok || len(got) != 0 {
		t.Errorf("%s = %v, %v", what, got, ok)
	}
}

// expectNoExpression fails unless every function rejects a list, also as what replaces a field.
func expectNoExpression(t *testing.T, list []impl.Node) {
	t.Helper()
	if impl.IsExpression(list) {
		t.Errorf("%v is an expression", list)
	}
	if s, ok := impl.FormatExpression(list); ok || s != "" {
		t.Errorf("FormatExpression(%v) = %q, %v", list, s, ok)
	}
	for size := 1; size <= 4; size++ {
		f, ok := impl.Evaluate(list, slices.Repeat([]impl.Field{fieldOf(2, 1, 1, gone)}, size))
		expectNoField(t, "Evaluate of no expression", f, ok)
	}
	if used, ok := impl.FieldsUsed(list); ok || len(used) != 0 {
		t.Errorf("FieldsUsed(%v) = %v, %v", list, used, ok)
	}
	if depth, ok := impl.Depth(list); ok || depth != 0 {
		t.Errorf("Depth(%v) = %d, %v", list, depth, ok)
	}
	folded, ok := impl.FoldNumbers(list)
	expectNoList(t, "FoldNumbers of no expression", folded, ok)
	for field := range 4 {
		for _, words := range []string{"a", "1", "a b c d + + +"} {
			replaced, ok := impl.ReplaceField(list, field, listOf(words))
			expectNoList(t, "ReplaceField in no expression", replaced, ok)
			replaced, ok = impl.ReplaceField(listOf(words), field, list)
			expectNoList(t, "ReplaceField by no expression", replaced, ok)
		}
	}
	replaced, ok := impl.ReplaceField(list, 0, list)
	expectNoList(t, "ReplaceField in and by no expression", replaced, ok)
}

func TestNumbersOfNodes(t *testing.T) {
	kinds := []int{
		impl.NodeField, impl.NodeNumber, impl.NodeAdd, impl.NodeMinus, impl.NodeLeast, impl.NodeMost, impl.NodeAbove,
	}
	if !slices.Equal(kinds, []int{1, 2, 3, 4, 5, 6, 7}) || impl.MaxNodes != 15 {
		t.Error(kinds, impl.MaxNodes)
	}
}

func TestExpressionsAndTheirTexts(t *testing.T) {
	for _, w := range writtenExpressions() {
		list := listOf(w.nodes)
		if !impl.IsExpression(list) {
			t.Errorf("%s is no expression", w.nodes)
		}
		if s, ok := impl.FormatExpression(list); !ok || s != w.text {
			t.Errorf("FormatExpression of %s = %q, %v, not %q", w.nodes, s, ok, w.text)
		}
		parsed, ok := impl.ParseExpression(w.text)
		expectList(t, "ParseExpression of "+w.text, parsed, ok, list)
	}
}

func TestListsThatAreNoExpressions(t *testing.T) {
	expectNoExpression(t, nil)
	expectNoExpression(t, []impl.Node{})
	expectNoExpression(t, []impl.Node{{}})
	for _, words := range []string{
		"+", "-", "min", "max", ">0", ">9000", "a +", "a -", "a min", "1 max", "+ +", ">1 >1", "a b + +", "a >1 -", "a b min >1 max",
		"a b", "a 1", "1 2", "a b c +", "a b >1", "a >1 b", "a b + c", "a b + 1 2", "a b c d min min", "a a a a", "1 2 + 3 4 +",
		"+ a b", "a + b", "a >1 b c", "a b c + - d", "a >1 1", ">1 a", "a + b c", "min a b", "a min b c +", "a b + + c",
		"+ a b c +", "a b - - c d", "- 1 a",
	} {
		expectNoExpression(t, listOf(words))
	}
}

// isOneExpression looks from the end of a list for the arguments that are still missing.
func isOneExpression(list []impl.Node) bool {
	missing := 1
	for _, node := range slices.Backward(list) {
		if missing == 0 {
			return false
		}
		switch node.Kind {
		case 1, 2:
			missing--
		case 3, 4, 5, 6:
			missing++
		}
	}
	return missing == 0
}

func TestEveryShortList(t *testing.T) {
	kinds := listOf("a 1 + - min max >1")
	lists, count := [][]impl.Node{{}}, 0
	for range 6 {
		longer := [][]impl.Node{}
		for _, list := range lists {
			for _, node := range kinds {
				longer = append(longer, append(slices.Clone(list), node))
			}
		}
		lists = longer
		for _, list := range lists {
			is := isOneExpression(list)
			if is {
				count++
			}
			if impl.IsExpression(list) != is {
				t.Fatalf("IsExpression(%v) = %v", list, !is)
			}
			if s, ok := impl.FormatExpression(list); ok != is || (s != "") != is {
				t.Fatalf("FormatExpression(%v) = %q, %v", list, s, ok)
			}
		}
	}
	all := 0
	for _, trees := range smallTrees(6, kinds[:2], kinds[2:]) {
		all += len(trees)
	}
	if count != all {
		t.Errorf("%d expressions among the lists, not %d", count, all)
	}
}

func TestEveryNodeAtItsLimits(t *testing.T) {
	numbers := []int{0, 1, 2, 3, 4, 5, -1, -2, 8999, 9000, 9001, 9999, 10000, gone, -9000, 256, 1 << 16, 1<<32 + 1, -(1 << 32)}
	numbers = append(numbers, farNumbers()...)
	arguments := []string{1: "", 2: "", 3: "a b", 4: "a b", 5: "a b", 6: "a b", 7: "a"}
	limits := []int{1: 3, 2: 9000, 3: 0, 4: 0, 5: 0, 6: 0, 7: 9000}
	for _, kind := range append(numbers, 6, 7, 8, 9, 10) {
		for _, value := range numbers {
			node := impl.Node{Kind: kind, Value: value}
			if kind < 1 || kind > 7 || value < 0 || value > limits[kind] {
				for _, words := range []string{"", "a ", "a b ", "a b + "} {
					checkInvalidNode(t, listOf(words), node)
				}
				continue
			}
			list := append(listOf(arguments[kind]), node)
			if !impl.IsExpression(list) {
				t.Errorf("%v is no expression", list)
			}
		}
	}
}

// checkInvalidNode looks at a node behind others, and with more nodes behind it.
func checkInvalidNode(t *testing.T, before []impl.Node, node impl.Node) {
	t.Helper()
	expectNoExpression(t, append(slices.Clone(before), node))
	for _, words := range []string{"1 +", ">1", "a min", "+"} {
		list := append(append(slices.Clone(before), node), listOf(words)...)
		if impl.IsExpression(list) {
			t.Errorf("%v is an expression", list)
		}
	}
}

func TestListsOfTooManyNodes(t *testing.T) {
	long := [][2]string{
		{"a" + strings.Repeat(" b +", 7), " >1"},
		{"a" + strings.Repeat(" >1", 14), " >1"},
		{strings.Repeat("a ", 8) + strings.Repeat("- ", 7), " >9000"},
		{"a >1" + strings.Repeat(" b min", 6) + " >0", " >0"},
		{"a >1" + strings.Repeat(" b max", 6) + " >0", " c +"},
		{"a" + strings.Repeat(" b -", 7), " c -"},
	}
	for _, words := range long {
		list := listOf(words[0])
		text, ok := impl.FormatExpression(list)
		parsed, okParsed := impl.ParseExpression(text)
		if len(list) != 15 || !impl.IsExpression(list) || !ok {
			t.Errorf("%d nodes: %s", len(list), words[0])
		}
		expectList(t, "ParseExpression of 15 nodes", parsed, okParsed, list)
		expectNoExpression(t, listOf(words[0]+words[1]))
	}
	expectNoExpression(t, listOf(strings.Repeat("a ", 15)))
	expectNoExpression(t, listOf(strings.Repeat("a ", 16)))
	expectNoExpression(t, listOf("a"+strings.Repeat(" b +", 8)))
	expectNoExpression(t, listOf("a"+strings.Repeat(" b +", 50000)))
	expectNoExpression(t, make([]impl.Node, 1000000))
	for n := 1; n <= 40; n++ {
		if list := listOf("1" + strings.Repeat(" >1", n-1)); impl.IsExpression(list) != (n <= 15) {
			t.Errorf("IsExpression of %d nodes = %v", n, n > 15)
		}
	}
}

func TestEverySmallExpression(t *testing.T) {
	byText := map[string]bool{}
	for size, trees := range smallTrees(6, listOf("a b 0 9000"), listOf("+ - min max >0 >12")) {
		for _, tree := range trees {
			list := tree.list()
			if len(list) != size || byText[tree.text()] {
				t.Fatalf("%v, %s", list, tree.text())
			}
			byText[tree.text()] = true
			if s, ok := impl.FormatExpression(list); !ok || s != tree.text() {
				t.Fatalf("FormatExpression(%v) = %q, %v", list, s, ok)
			}
			parsed, ok := impl.ParseExpression(tree.text())
			expectList(t, "ParseExpression of "+tree.text(), parsed, ok, list)
			if depth, ok := impl.Depth(list); !ok || depth != tree.depth() {
				t.Fatalf("Depth(%v) = %d, %v", list, depth, ok)
			}
		}
	}
	if len(byText) < 10000 {
		t.Error(len(byText), "expressions")
	}
}

func TestExpressionsOfEverySizeAreRecovered(t *testing.T) {
	random := rand.New(rand.NewPCG(5, 1))
	for i := range 60000 {
		tree := someTree(random, i%15+1, someLeaf(random, 5))
		list := tree.list()
		text, ok := impl.FormatExpression(list)
		if !ok || text != tree.text() {
			t.Fatalf("FormatExpression(%v) = %q, %v", list, text, ok)
		}
		parsed, ok := impl.ParseExpression(text)
		expectList(t, "ParseExpression of "+text, parsed, ok, list)
		if depth, ok := impl.Depth(list); !ok || depth != tree.depth() {
			t.Fatalf("Depth(%v) = %d, %v", list, depth, ok)
		}
	}
}

func TestEveryNumberIsRecovered(t *testing.T) {
	for n := range 20000 {
		digits := strconv.Itoa(n)
		for _, pair := range [][2]string{{"#", "#"}, {"a # +", "a+#"}, {"a >#", "above(a,#)"}} {
			list := listOf(strings.ReplaceAll(pair[0], "#", digits))
			text := strings.ReplaceAll(pair[1], "#", digits)
			parsed, ok := impl.ParseExpression(text)
			if n > 9000 {
				expectNoList(t, "ParseExpression of "+text, parsed, ok)
				continue
			}
			expectList(t, "ParseExpression of "+text, parsed, ok, list)
		}
	}
}

func TestTextsOfNoExpression(t *testing.T) {
	for _, s := range []string{
		"", " ", "e", "A", "z", "x", "`", "ab", "aa", "a1", "1a", "a b", "a,b", "a,1", ",", "(", ")", "()", "+", "-", ".", "a.", "\x00", "a\x00", "á", "\xff",
		"(a)", "(1)", "((a))", "(a+b)", "(a-b)", "(a+b)-c", "(a-b)+c", "(a+b)+(c+d)", "a+(b)", "a-(1)", "a+((b+c))", "a-((b))", "a+(min(b,c))", "a-(above(b,1))",
		"(a)+b", "(min(a,b))", "min((a),b)", "min(a,(b))", "min((a+b),c)", "min(a,(b+c))", "max((a-b),c)", "max(c,(a-b))", "above((a+b),1)", "above((a),1)", "above(a,(1))",
		"a-(b+c", "a-b+c)", "a-(b+(c+d)", "a-(b+c))", "a-b)", "a)", "a(", "a+(", "a+)", "a+()", "a-(b+)", "a-(+b)", "(a+b", "a+b)",
		" a", "a ", "a +b", "a+ b", "a+b ", " a+b", "a\n", "min( a,b)", "min(a, b)", "min (a,b)", "min(a ,b)", "min(a,b )", "above(a, 1)", "a\t",
		"00", "01", "007", "a+01", "above(a,00)", "above(a,01)", "above(a,)", "09000", "0x1", "1e3", "1_0", "1.5",
		"9001", "9999", "10000", "999999", "1000000", "99999999999999999999", "18446744073709551616", "18446744073709551617", "a+9001", "above(a,9001)", "above(9001,1)", "4294967297",
		"-1", "+1", "-a", "+a", "-0", "+0", "a+-1", "a--1", "a-+1", "a++1", "min(-1,a)", "min(+1,a)", "above(a,-1)", "above(a,+1)", "above(-a,1)", "a-(-1)",
		"a+", "a-", "+b", "-b", "a+b+", "a+b-", "a++b", "a--b", "a+-b", "a*b", "a/b", "a=b", "a<b", "a>b", "a!",
		"min", "max", "above", "min(", "min()", "min(a", "min(a)", "min(a,", "min(a,)", "min(,b)", "min(,)", "min(a,b", "min(a,b,c)", "min(a,b))", "min(a,b)c", "min(a;b)", "min(a b)", "min[a,b]",
		"MIN(a,b)", "Min(a,b)", "mina,b", "minimum(a,b)", "mn(a,b)", "least(a,b)", "most(a,b)", "add(a,b)", "minus(a,b)", "sum(a,b)", "abs(a)", "max(a)", "max(a,b", "max(a,b,c)", "mix(a,b)",
		"above(a)", "above(1,)", "above(,1)", "above(,)", "above()", "above(a,b)", "above(a,1", "above(a,1,2)", "above(a,1+1)", "above(a,1)b", "above(a,1)1", "above(a,above(1,0))", "above(a,min(1,2))",
		"a+b c", "a+bc", "a+b1", "1+2 3", "min(a,b)+", "min(a,b)min(a,b)", "above(a,1)above(a,1)", "a min b", "a b +", "1 2", "aabove(a,1)", "min(a,b)(c)", "a(b)", "1(2)", "a,", ",a",
	} {
		parsed, ok := impl.ParseExpression(s)
		expectNoList(t, "ParseExpression of "+strconv.Quote(s), parsed, ok)
	}
}

func TestTextsOfTooManyNodes(t *testing.T) {
	for _, c := range []struct {
		before, middle, behind string
		most                   int
	}{
		{"", "a", "+b", 7}, {"", "a", "-1", 7}, {"", "min(a,b)", "-1", 6}, {"above(", "9000", ",9000)", 14}, {"above(", "a", ",0)", 14},
		{"min(", "a", ",1)", 7}, {"max(", "0", ",b)", 7}, {"min(a,", "b", ")", 7}, {"max(a,", "b", ")", 7}, {"a+(", "a+a", ")", 6}, {"a-(", "b-c", ")", 6},
		{"above(min(a,", "b", "),1)", 4}, {"above(", "a+b+c+d", ",1)", 8},
	} {
		for n := 1; n <= c.most+3; n++ {
			s := strings.Repeat(c.before, n) + c.middle + strings.Repeat(c.behind, n)
			list, ok := impl.ParseExpression(s)
			if n > c.most {
				expectNoList(t, "ParseExpression of "+s, list, ok)
			} else if !ok || len(list) > 15 {
				t.Errorf("ParseExpression of %s: %v, %v", s, list, ok)
			}
		}
	}
}

func TestLongTexts(t *testing.T) {
	for _, part := range []string{"(", ")", "a+(", "min(", "max(a,", "above(", "a", "a+", "a-", "1", "0", "9", ",", " ", "\x00", "min(a,b)+", "(a+b)-", "+", "-"} {
		for _, size := range []int{16, 200, 5000} {
			s := strings.Repeat(part, size)
			for _, text := range []string{s, s + "a", "a+" + s, "above(" + s + "a,1)"} {
				list, ok := impl.ParseExpression(text)
				expectNoList(t, "ParseExpression of many "+part, list, ok)
			}
		}
	}
	// A reader that goes down at every opening would need more memory for its calls than there is.
	for _, part := range []string{"(", "min(", "above("} {
		list, ok := impl.ParseExpression(strings.Repeat(part, 8000000))
		expectNoList(t, "ParseExpression of very many "+part, list, ok)
	}
}

// textsOf are all words of at most size tokens.
func textsOf(tokens []string, size int) []string {
	all, last := []string{""}, []string{""}
	for range size {
		longer := []string{}
		for _, s := range last {
			for _, token := range tokens {
				longer = append(longer, s+token)
			}
		}
		all = append(all, longer...)
		last = longer
	}
	return all
}

// checkTexts parses texts, of which those of the trees are all that have an expression.
func checkTexts(t *testing.T, texts []string, trees [][]*plainTree) {
	t.Helper()
	lists := map[string][]impl.Node{}
	for _, trees := range trees {
		for _, tree := range trees {
			lists[tree.text()] = tree.list()
		}
	}
	seen := map[string]bool{}
	for _, s := range texts {
		list, ok := impl.ParseExpression(s)
		if want, is := lists[s]; is {
			seen[s] = true
			expectList(t, "ParseExpression of "+s, list, ok, want)
		} else {
			expectNoList(t, "ParseExpression of "+s, list, ok)
		}
	}
	if len(seen) < 10 {
		t.Error("only", len(seen), "texts of expressions")
	}
}

func TestParseExpressionAcceptsExactlyTheTexts(t *testing.T) {
	trees := smallTrees(6, listOf("a 1 11 111 1111"), listOf("+ min >1 >11 >111 >1111"))
	checkTexts(t, textsOf([]string{"a", "1", "+", "(", ")", "min(", ",", "above("}, 6), trees)
	signs := smallTrees(7, listOf("a"), listOf("+ -"))
	checkTexts(t, textsOf([]string{"a", "+", "-", "(", ")"}, 8), signs)
	calls := smallTrees(6, listOf("a 1"), listOf("min max >1"))
	checkTexts(t, textsOf([]string{"a", "min(", "max(", "above(", ",", ",1)", ")"}, 6), calls)
}

func TestChangedExpressions(t *testing.T) {
	for _, w := range writtenExpressions() {
		for i := range len(w.text) + 1 {
			checkChanged(t, w.text[:i])
			checkChanged(t, w.text[i:])
			for _, by := range "abe019+-(), m.\x00" {
				checkChanged(t, w.text[:i]+string(by)+w.text[i:])
				if i < len(w.text) {
					checkChanged(t, w.text[:i]+w.text[i+1:])
					checkChanged(t, w.text[:i]+string(by)+w.text[i+1:])
				}
			}
		}
	}
}

// checkChanged fails if a text has an expression whose text is another one.
func checkChanged(t *testing.T, s string) {
	t.Helper()
	list, ok := impl.ParseExpression(s)
	if !ok {
		expectNoList(t, "ParseExpression of "+s, list, ok)
		return
	}
	if text, ok := impl.FormatExpression(list); !ok || text != s {
		t.Errorf("ParseExpression of %q = %v, of %q", s, list, text)
	}
}

func TestValuesOfExpressions(t *testing.T) {
	fields := []impl.Field{
		fieldOf(3, 2, 1, -7, gone, 5, 0, 9000), fieldOf(3, 2, 4, 2, 3, gone, 0, -9000),
		fieldOf(3, 2, 2, 2, 2, 2, 2, 2), fieldOf(3, 2, filled(6, gone)...),
	}
	for _, c := range []struct {
		text string
		want []int
	}{
		{"a", []int{1, -7, gone, 5, 0, 9000}}, {"b", []int{4, 2, 3, gone, 0, -9000}}, {"d", filled(6, gone)},
		{"0", filled(6, 0)}, {"9000", filled(6, 9000)}, {"4", filled(6, 4)},
		{"a+b", []int{5, -5, gone, gone, 0, 0}}, {"b-c", nil}, {"c-b", nil}, {"c-a", []int{1, 9, gone, -3, 2, -8998}},
		{"a-c", []int{-1, -9, gone, 3, -2, 8998}}, {"a-c-c", []int{-3, -11, gone, 1, -4, 8996}}, {"a-(c-c)", []int{1, -7, gone, 5, 0, 9000}},
		{"a-(c-5)", nil}, {"a-(c+1)", []int{-2, -10, gone, 2, -3, 8997}}, {"a-c+1", []int{0, -8, gone, 4, -1, 8999}},
		{"min(a,b)", []int{1, -7, gone, gone, 0, -9000}}, {"max(a,b)", []int{4, 2, gone, gone, 0, 9000}}, {"min(a,3)", []int{1, -7, gone, 3, 0, 3}},
		{"max(0,a)", []int{1, 0, gone, 5, 0, 9000}}, {"max(2,min(a,4))", []int{2, 2, gone, 4, 2, 4}},
		{"above(a,0)", []int{1, 0, gone, 1, 0, 1}}, {"above(a,1)", []int{0, 0, gone, 1, 0, 1}}, {"above(a,8999)", []int{0, 0, gone, 0, 0, 1}},
		{"above(a,9000)", []int{0, 0, gone, 0, 0, 0}}, {"above(a+b,4)", []int{1, 0, gone, gone, 0, 0}}, {"above(3,2)", filled(6, 1)},
		{"above(2,2)", filled(6, 0)}, {"above(1,2)", filled(6, 0)}, {"above(d,0)", filled(6, gone)}, {"1+2", filled(6, 3)}, {"1-2", filled(6, -1)},
		{"0-9000", filled(6, -9000)}, {"0-9000-1", nil}, {"9000+1", nil}, {"9000+0", filled(6, 9000)}, {"a+1", nil}, {"a-1", []int{0, -8, gone, 4, -1, 8999}},
		{"b-1", nil}, {"b+1", []int{5, 3, 4, gone, 1, -8999}}, {"a+1-1", nil}, {"min(a+1,0)", nil}, {"above(a+1,5)", nil}, {"a+(1-1)", []int{1, -7, gone, 5, 0, 9000}},
		{"d-9000-9000", filled(6, gone)}, {"d+(9000+1)", nil}, {"d+(a+1)", nil}, {"a+d", filled(6, gone)}, {"a-a", []int{0, 0, gone, 0, 0, 0}},
		{"a+b+c-d", filled(6, gone)}, {"a+b+c", []int{7, -3, gone, gone, 2, 2}}, {"c-(c-(c-(c-1)))", filled(6, 1)}, {"c+(c+(c+c))", filled(6, 8)},
		{"0-9000-999", nil}, {"a+0", []int{1, -7, gone, 5, 0, 9000}}, {"0-a", []int{-1, 7, gone, -5, 0, -9000}},
	} {
		list, ok := impl.ParseExpression(c.text)
		f, known := impl.Evaluate(list, fields)
		if !ok || known != (c.want != nil) {
			t.Errorf("%s = %v, %v", c.text, f, known)
		} else if known {
			expectField(t, c.text, f, known, fieldOf(3, 2, c.want...))
		} else {
			expectNoField(t, c.text, f, known)
		}
	}
}

func TestValuesOfRandomExpressions(t *testing.T) {
	random := rand.New(rand.NewPCG(5, 2))
	done := map[bool]int{}
	for i := range 60000 {
		tree := someTree(random, i%15+1, someLeaf(random, 3))
		fields := someFields(random, 1+random.IntN(4))
		want, is := tree.value(fields)
		done[is]++
		f, ok := impl.Evaluate(tree.list(), fields)
		if !is {
			expectNoField(t, tree.text(), f, ok)
			continue
		}
		expectField(t, tree.text(), f, ok, want)
	}
	if done[true] < 5000 || done[false] < 5000 {
		t.Error("expressions with a value and without:", done)
	}
}

func TestOneCellTooFarFailsTheExpression(t *testing.T) {
	list := listOf("a b + c max")
	for at := range 64 {
		for _, far := range []int{9000, -9000} {
			a, b := fieldOf(8, 8, filled(64, gone)...), fieldOf(8, 8, filled(64, far/9000)...)
			c := fieldOf(8, 8, filled(64, gone)...)
			f, ok := impl.Evaluate(list, []impl.Field{a, b, c})
			expectField(t, "no sum", f, ok, c)
			f, ok = impl.Evaluate(list, []impl.Field{one(a, at, far), b, c})
			expectNoField(t, "a sum too far", f, ok)
			f, ok = impl.Evaluate(list, []impl.Field{one(a, at, far), one(b, at, 0), one(c, at, -1)})
			expectField(t, "a sum in range", f, ok, one(c, at, max(far, -1)))
		}
	}
}

func TestFieldsOfAnExpression(t *testing.T) {
	ofOne := []impl.Field{}
	for value := range 6 {
		ofOne = append(ofOne, fieldOf(2, 3, filled(6, value)...))
	}
	for count := range 6 {
		for used := range 4 {
			for _, words := range []string{"", " 1 min", " >0", " 1 + >1 2 max", " 0 + 1 -"} {
				list := append(listOf(string(rune('a'+used))), listOf(words)...)
				f, ok := impl.Evaluate(list, ofOne[:count])
				if count < 1 || count > 4 || used >= count {
					expectNoField(t, "Evaluate for "+strconv.Itoa(count)+" fields", f, ok)
				} else if !ok || words == "" && !sameField(f, ofOne[used]) {
					t.Errorf("%d of %d fields: %v, %v", used, count, f, ok)
				}
			}
		}
		f, ok := impl.Evaluate(listOf("7"), ofOne[:count])
		if count < 1 || count > 4 {
			expectNoField(t, "a number for "+strconv.Itoa(count)+" fields", f, ok)
		} else {
			expectField(t, "a number", f, ok, fieldOf(2, 3, filled(6, 7)...))
		}
	}
	f, ok := impl.Evaluate(listOf("7"), nil)
	expectNoField(t, "a number for nil", f, ok)
	f, ok = impl.Evaluate(listOf("7"), make([]impl.Field, 100000))
	expectNoField(t, "a number for many", f, ok)
	f, ok = impl.Evaluate(listOf("a"), slices.Repeat([]impl.Field{ofOne[0]}, 100000))
	expectNoField(t, "a for many", f, ok)
}

func TestNumbersHaveTheShapeOfTheFields(t *testing.T) {
	for wide := 1; wide <= 8; wide++ {
		for high := 1; high <= 8; high++ {
			for _, cell := range []int{gone, 0, 9000} {
				shape := fieldOf(wide, high, filled(wide*high, cell)...)
				for count := 1; count <= 4; count++ {
					f, ok := impl.Evaluate(listOf("3 4 +"), slices.Repeat([]impl.Field{shape}, count))
					expectField(t, "3+4", f, ok, fieldOf(wide, high, filled(wide*high, 7)...))
				}
			}
		}
	}
}

// placed returns count fields, of which one is bad and the others are like it in shape.
func placed(count int, at int, bad impl.Field) []impl.Field {
	fields := slices.Repeat([]impl.Field{shapedLike(bad, 1)}, count)
	fields[at] = bad
	return fields
}

func TestEvaluateRejectsFields(t *testing.T) {
	for name, bad := range invalidFields() {
		for count := 1; count <= 4; count++ {
			for at := range count {
				for _, words := range []string{"1", "a", "a >1", "a 1 +", "a b +", "b", "c d max"} {
					f, ok := impl.Evaluate(listOf(words), placed(count, at, bad))
					expectNoField(t, words+" with "+name, f, ok)
				}
			}
			f, ok := impl.Evaluate(listOf("1"), slices.Repeat([]impl.Field{bad}, count))
			expectNoField(t, "nothing but "+name, f, ok)
		}
	}
}

func TestEvaluateRejectsFieldsOfDifferentShapes(t *testing.T) {
	shapes := [][2]int{{1, 1}, {1, 4}, {4, 1}, {2, 2}, {2, 3}, {3, 2}, {6, 1}, {8, 8}, {8, 7}, {7, 8}, {1, 8}, {4, 2}}
	for _, p := range shapes {
		for _, q := range shapes {
			f, g := fieldOf(p[0], p[1], filled(p[0]*p[1], 1)...), fieldOf(q[0], q[1], filled(q[0]*q[1], 1)...)
			for count := 2; count <= 4; count++ {
				for at := range count {
					fields := slices.Repeat([]impl.Field{f}, count)
					fields[at] = g
					for _, words := range []string{"1", "a", "b", "a b +"} {
						made, ok := impl.Evaluate(listOf(words), fields)
						if p == q {
							expectField(t, words, made, ok, fieldOf(p[0], p[1], filled(p[0]*p[1], 1+strings.Count(words, "+"))...))
						} else {
							expectNoField(t, words+" of different shapes", made, ok)
						}
					}
				}
			}
		}
	}
}

func TestFieldsUsed(t *testing.T) {
	for _, c := range []struct {
		nodes string
		want  []int
	}{
		{"a", []int{0}}, {"b", []int{1}}, {"c", []int{2}}, {"d", []int{3}}, {"1", nil}, {"1 2 +", nil}, {"3 >2", nil}, {"0", nil}, {"3 0 -", nil},
		{"a a +", []int{0}}, {"b b b min max", []int{1}}, {"d a -", []int{0, 3}}, {"d c b a + + +", []int{0, 1, 2, 3}}, {"a b + c + d +", []int{0, 1, 2, 3}},
		{"c 1 + >1 b max", []int{1, 2}}, {"d >3 d >2 -", []int{3}}, {"1 b 2 + -", []int{1}}, {"c a c a c a c min min min min min min", []int{0, 2}},
	} {
		if used, ok := impl.FieldsUsed(listOf(c.nodes)); !ok || !slices.Equal(used, c.want) {
			t.Errorf("FieldsUsed of %s = %v, %v", c.nodes, used, ok)
		}
	}
	random := rand.New(rand.NewPCG(5, 3))
	for i := range 5000 {
		tree := someTree(random, i%15+1, someLeaf(random, 6))
		want := []int{}
		for field, name := range []string{"a", "b", "c", "d"} {
			if strings.Contains(strings.NewReplacer("max", "", "above", "").Replace(tree.text()), name) {
				want = append(want, field)
			}
		}
		if used, ok := impl.FieldsUsed(tree.list()); !ok || !slices.Equal(used, want) {
			t.Errorf("FieldsUsed of %s = %v, %v", tree.text(), used, ok)
		}
	}
}

func TestDepth(t *testing.T) {
	for _, c := range []struct {
		nodes string
		want  int
	}{
		{"a", 1}, {"0", 1}, {"9000", 1}, {"a b +", 2}, {"a 1 -", 2}, {"1 a min", 2}, {"1 2 max", 2}, {"a >1", 2},
		{"a b + c +", 3}, {"a b c + +", 3}, {"a b + c d + +", 3}, {"a >1 >1", 3}, {"a >1 b +", 3}, {"a b >1 +", 3},
		{"a b + c + d +", 4}, {"a b c d + + +", 4}, {"a b + c d >1 + min", 4}, {"a >1 b + c d min max", 4},
		{"a" + strings.Repeat(" >1", 14), 15}, {"a" + strings.Repeat(" b +", 7), 8}, {strings.Repeat("a ", 8) + strings.Repeat("+ ", 7), 8},
		{"a b + c d + + a b + c d + + +", 4},
	} {
		if depth, ok := impl.Depth(listOf(c.nodes)); !ok || depth != c.want {
			t.Errorf("Depth of %s = %d, %v", c.nodes, depth, ok)
		}
	}
}

func TestFoldNumbers(t *testing.T) {
	for _, c := range [][2]string{
		{"a", "a"}, {"d", "d"}, {"0", "0"}, {"9000", "9000"}, {"a+1", "a+1"}, {"1+a", "1+a"}, {"min(a,1)", "min(a,1)"}, {"above(a,1)", "above(a,1)"},
		{"1+2", "3"}, {"3-2", "1"}, {"3-3", "0"}, {"min(3,2)", "2"}, {"min(2,3)", "2"}, {"max(3,2)", "3"}, {"max(2,3)", "3"}, {"0+0", "0"}, {"max(0,0)", "0"},
		{"2-3", "2-3"}, {"0-1", "0-1"}, {"0-9000", "0-9000"}, {"9000-9000", "0"}, {"8999-9000", "8999-9000"}, {"9000+0", "9000"}, {"9000+1", "9000+1"},
		{"8999+1", "9000"}, {"4500+4500", "9000"}, {"4500+4501", "4500+4501"}, {"9000+9000", "9000+9000"}, {"min(9000,0)", "0"}, {"max(9000,0)", "9000"},
		{"above(7,5)", "1"}, {"above(5,5)", "0"}, {"above(4,5)", "0"}, {"above(6,5)", "1"}, {"above(0,0)", "0"}, {"above(1,0)", "1"}, {"above(9000,9000)", "0"},
		{"above(9000,8999)", "1"}, {"above(above(7,5),0)", "1"}, {"above(above(7,5),1)", "0"},
		{"min(2+3,a)-above(7,5)", "min(5,a)-1"}, {"1+2+3", "6"}, {"1+(2+3)", "6"}, {"10-(3-1)", "8"}, {"10-3-1", "6"}, {"a+1+2", "a+1+2"}, {"a+(1+2)", "a+3"},
		{"1+2+a", "3+a"}, {"1+a+2", "1+a+2"}, {"a-(5-2)-(4-1)", "a-3-3"}, {"1-2+3", "1-2+3"}, {"3+(1-2)", "3+(1-2)"}, {"1-2+(3+4)", "1-2+7"},
		{"9000+1-1", "9000+1-1"}, {"1+(9000+0)", "1+9000"}, {"9000+1+(1+1)", "9000+1+2"}, {"above(1-2,0)", "above(1-2,0)"}, {"above(9000+1,0)", "above(9000+1,0)"},
		{"max(1-2,3)", "max(1-2,3)"}, {"min(1+1,2+2)", "2"}, {"max(above(3,2),min(4,0+9))", "4"}, {"above(min(a,1),0)", "above(min(a,1),0)"},
		{"a+above(2,1)", "a+1"}, {"above(a+(1+1),3)", "above(a+2,3)"}, {"min(a,b)", "min(a,b)"}, {"a-(b-(2-1))", "a-(b-1)"}, {"a+b+(c+(2+2))", "a+b+(c+4)"},
		{"above(1+1,1)+above(1+1,2)", "1"}, {"1+1+1+1+1+1+1+1", "8"}, {"1+(1+(1+(1+(1+(1+(1+1))))))", "8"}, {"9000-1-1-1-1-1-1-1", "8993"},
		{"9000+1-(1+a)", "9000+1-(1+a)"}, {"0+a", "0+a"}, {"a-0", "a-0"}, {"a-a", "a-a"}, {"max(a,a)", "max(a,a)"}, {"above(above(a,1),1)", "above(above(a,1),1)"},
		{"1-(2-(3-4))", "1-(2-(3-4))"}, {"5-(2-(4-3))", "4"}, {"2-(5-(4-3))", "2-4"}, {"1+2-a-(3+4)", "3-a-7"},
	} {
		list, ok := impl.ParseExpression(c[0])
		folded, okFolded := impl.FoldNumbers(list)
		if s, _ := impl.FormatExpression(folded); !ok || !okFolded || s != c[1] {
			t.Errorf("%s is folded to %s, not %s", c[0], s, c[1])
		}
	}
}

func TestFoldEveryPairOfNumbers(t *testing.T) {
	numbers := []int{0, 1, 2, 3, 99, 999, 1000, 4499, 4500, 4501, 8998, 8999, 9000}
	for _, x := range numbers {
		for _, y := range numbers {
			for kind := 3; kind <= 6; kind++ {
				list := []impl.Node{{Kind: 2, Value: x}, {Kind: 2, Value: y}, {Kind: kind}}
				want := slices.Clone(list)
				if value, is := combined(kind-2, x, y); is && value >= 0 {
					want = []impl.Node{{Kind: 2, Value: value}}
				}
				folded, ok := impl.FoldNumbers(list)
				expectList(t, "FoldNumbers", folded, ok, want)
			}
			above := 0
			if x > y {
				above = 1
			}
			folded, ok := impl.FoldNumbers([]impl.Node{{Kind: 2, Value: x}, {Kind: 7, Value: y}})
			expectList(t, "FoldNumbers of above", folded, ok, []impl.Node{{Kind: 2, Value: above}})
		}
	}
}

func TestFoldingNodeByNode(t *testing.T) {
	random := rand.New(rand.NewPCG(5, 4))
	shorter := 0
	for i := range 60000 {
		tree := someTree(random, i%15+1, someLeaf(random, 4+i%7))
		list := tree.list()
		folded, ok := impl.FoldNumbers(list)
		for tree.foldFirst() {
		}
		expectList(t, "FoldNumbers", folded, ok, tree.list())
		again, ok := impl.FoldNumbers(folded)
		expectList(t, "FoldNumbers of a folded list", again, ok, folded)
		if len(folded) < len(list) {
			shorter++
		}
	}
	if shorter < 10000 {
		t.Error("only", shorter, "lists were folded")
	}
}

func TestFoldingDoesNotChangeValues(t *testing.T) {
	random := rand.New(rand.NewPCG(5, 5))
	done := map[bool]int{}
	for i := range 60000 {
		list := someTree(random, i%15+1, someLeaf(random, 3+i%8)).list()
		folded, ok := impl.FoldNumbers(list)
		if !ok || !impl.IsExpression(folded) {
			t.Fatalf("FoldNumbers(%v) = %v, %v", list, folded, ok)
		}
		fields := someFields(random, 1+random.IntN(4))
		want, is := impl.Evaluate(list, fields)
		f, ok := impl.Evaluate(folded, fields)
		if ok != is || !sameField(f, want) {
			t.Fatalf("%v = %v, %v and folded %v = %v, %v", list, want, is, folded, f, ok)
		}
		if len(folded) < len(list) {
			done[is]++
		}
	}
	if done[true] < 5000 || done[false] < 2000 {
		t.Error("folded expressions with a value and without:", done)
	}
}

func TestReplaceField(t *testing.T) {
	for _, c := range []struct {
		text  string
		field int
		by    string
		want  string
	}{
		{"a", 0, "b", "b"}, {"a", 0, "a", "a"}, {"a", 0, "a+1", "a+1"}, {"a", 1, "b+1", "a"}, {"7", 0, "b", "7"}, {"d", 3, "0", "0"}, {"d", 2, "0", "d"},
		{"c", 2, "min(a,b)", "min(a,b)"}, {"a+b", 0, "c", "c+b"}, {"a+b", 1, "c", "a+c"}, {"a+b", 2, "c", "a+b"}, {"a-a", 0, "b-1", "b-1-(b-1)"},
		{"a+a+a", 0, "a+a", "a+a+(a+a)+(a+a)"}, {"a+b", 0, "b", "b+b"}, {"a+b", 1, "a+b", "a+(a+b)"}, {"min(a,b)-a", 0, "max(a,b)", "min(max(a,b),b)-max(a,b)"},
		{"above(a,5)", 0, "a-b", "above(a-b,5)"}, {"min(2+3,a)-above(7,5)", 0, "b+1", "min(2+3,b+1)-above(7,5)"}, {"a+b+c+d", 3, "1", "a+b+c+1"},
		{"0+1+2+3", 0, "a", "0+1+2+3"}, {"0+1+2+3", 3, "d", "0+1+2+3"}, {"above(b,0)-0", 0, "c", "above(b,0)-0"}, {"a+0", 0, "5", "5+0"}, {"2+c-2", 2, "3", "2+3-2"},
	} {
		list, ok := impl.ParseExpression(c.text)
		by, okBy := impl.ParseExpression(c.by)
		replaced, okReplaced := impl.ReplaceField(list, c.field, by)
		if s, _ := impl.FormatExpression(replaced); !ok || !okBy || !okReplaced || s != c.want {
			t.Errorf("%s with %s for %d is %s, not %s", c.text, c.by, c.field, s, c.want)
		}
	}
}

func TestReplacingByManyNodes(t *testing.T) {
	random := rand.New(rand.NewPCG(5, 6))
	done := map[int]int{}
	for i := range 60000 {
		list := someTree(random, i%15+1, someLeaf(random, 6)).list()
		by := someTree(random, random.IntN(15)+1, someLeaf(random, 5)).list()
		field := random.IntN(4)
		want := []impl.Node{}
		for _, node := range list {
			if node.Kind == 1 && node.Value == field {
				want = append(want, by...)
				continue
			}
			want = append(want, node)
		}
		done[len(want)]++
		replaced, ok := impl.ReplaceField(list, field, by)
		if len(want) > 15 {
			expectNoList(t, "ReplaceField with too many nodes", replaced, ok)
			continue
		}
		expectList(t, "ReplaceField", replaced, ok, want)
		checkReplaced(t, list, field, by, replaced, someFields(random, 4))
	}
	if done[15] < 500 || done[16] < 500 || done[14] < 500 {
		t.Error("results by their numbers of nodes:", done)
	}
}

// checkReplaced fails if an expression has another value than the one it was made from, for
// the field that is the value of what replaces.
func checkReplaced(t *testing.T, list []impl.Node, field int, by []impl.Node, replaced []impl.Node, fields []impl.Field) {
	t.Helper()
	value, ok := impl.Evaluate(by, fields)
	if !ok {
		return
	}
	other := slices.Clone(fields)
	other[field] = value
	want, is := impl.Evaluate(list, other)
	f, ok := impl.Evaluate(replaced, fields)
	if ok != is || !sameField(f, want) {
		t.Errorf("%v = %v, %v, but %v = %v, %v", list, want, is, replaced, f, ok)
	}
}

func TestReplacingAtTheLimits(t *testing.T) {
	sevens, eights := listOf("a b + c + d +"), listOf("a b + c + d + >1")
	two := listOf("a a +")
	replaced, ok := impl.ReplaceField(two, 0, sevens)
	expectList(t, "15 nodes", replaced, ok, listOf("a b + c + d + a b + c + d + +"))
	replaced, ok = impl.ReplaceField(two, 0, eights)
	expectNoList(t, "17 nodes", replaced, ok)
	replaced, ok = impl.ReplaceField(listOf("a a + >1"), 0, sevens)
	expectNoList(t, "16 nodes", replaced, ok)
	most := listOf("a" + strings.Repeat(" 1 +", 7))
	replaced, ok = impl.ReplaceField(listOf("a"), 0, most)
	expectList(t, "a by 15 nodes", replaced, ok, most)
	replaced, ok = impl.ReplaceField(most, 0, listOf("b"))
	expectList(t, "a node of 15", replaced, ok, listOf("b"+strings.Repeat(" 1 +", 7)))
	replaced, ok = impl.ReplaceField(most, 0, listOf("b >1"))
	expectNoList(t, "16 nodes", replaced, ok)
	replaced, ok = impl.ReplaceField(most, 1, most)
	expectList(t, "nothing by 15 nodes", replaced, ok, most)
	replaced, ok = impl.ReplaceField(listOf(strings.Repeat("a ", 8)+strings.Repeat("+ ", 7)), 0, most)
	expectNoList(t, "8 by 15 nodes", replaced, ok)
}

func TestReplaceFieldRejectsFields(t *testing.T) {
	for _, field := range append(farNumbers(), -1, 4, 5, 256, 9000, gone) {
		for _, words := range []string{"a", "d", "0", "a b c d + + +", "4", "a >4", "9000"} {
			replaced, ok := impl.ReplaceField(listOf(words), field, listOf("b"))
			expectNoList(t, "ReplaceField of "+strconv.Itoa(field), replaced, ok)
		}
	}
	for field := range 4 {
		replaced, ok := impl.ReplaceField(listOf("9"), field, listOf("b"))
		expectList(t, "ReplaceField of "+strconv.Itoa(field), replaced, ok, listOf("9"))
	}
}

// listCalls are the functions that make a list of nodes of one or two lists.
func listCalls() map[string]func(list []impl.Node, by []impl.Node) ([]impl.Node, bool) {
	calls := map[string]func(list []impl.Node, by []impl.Node) ([]impl.Node, bool){
		"FoldNumbers": func(list []impl.Node, _ []impl.Node) ([]impl.Node, bool) { return impl.FoldNumbers(list) },
		"ParseExpression": func(list []impl.Node, _ []impl.Node) ([]impl.Node, bool) {
			s, _ := impl.FormatExpression(list)
			return impl.ParseExpression(s)
		},
	}
	for field := range 4 {
		calls["ReplaceField "+strconv.Itoa(field)] = func(list []impl.Node, by []impl.Node) ([]impl.Node, bool) {
			return impl.ReplaceField(list, field, by)
		}
	}
	return calls
}

func TestListsOfNodesAndMemory(t *testing.T) {
	behind := listOf("+ 5 a >1 b")
	for name, call := range listCalls() {
		for _, words := range []string{"a", "1", "a b +", "1 2 +", "a 1 2 + -", "a b c d + + +", "3 >1 a >0 max", "1 2 + 3 + 4 + a -", "1 2 - 3 +"} {
			for _, bys := range []string{"a", "7", "a b min", "1 2 +"} {
				list, by := append(listOf(words), behind...), append(listOf(bys), behind...)
				before, beforeBy := slices.Clone(list), slices.Clone(by)
				long, short := list[:len(list)-5], by[:len(by)-5]
				made, ok := call(long, short)
				second, okSecond := call(long, short)
				if !ok || !okSecond || !slices.Equal(made, second) {
					t.Errorf("%s of %s: %v and %v", name, words, made, second)
				}
				if shareElements(made, list) || shareElements(made, by) || shareElements(made, second) {
					t.Errorf("%s of %s shares memory", name, words)
				}
				want := slices.Clone(made)
				all := second[:cap(second)]
				for i := range all {
					all[i] = impl.Node{Kind: 99, Value: 99}
				}
				if !slices.Equal(list, before) || !slices.Equal(by, beforeBy) {
					t.Errorf("%s of %s modifies an argument, or its result does", name, words)
				}
				for i := range list {
					list[i] = impl.Node{}
				}
				for i := range by {
					by[i] = impl.Node{}
				}
				if !slices.Equal(made, want) {
					t.Errorf("the result of %s of %s changes with an argument", name, words)
				}
			}
		}
	}
}

func TestReplacingAListByItself(t *testing.T) {
	list := listOf("a b + a -")
	before := slices.Clone(list)
	replaced, ok := impl.ReplaceField(list, 0, list)
	expectList(t, "by itself", replaced, ok, listOf("a b + a - b + a b + a - -"))
	if !slices.Equal(list, before) || shareElements(replaced, list) {
		t.Error("the list is changed or shared:", list)
	}
}

// evaluationCalls are expressions whose values are made in different ways, as functions of the
// fields.
func evaluationCalls() []algebraCall {
	calls := []algebraCall{}
	for _, words := range []string{"a", "b", "c", "7", "a >1", "a b +", "a b -", "a b min", "c b max", "a a -", "a 1 +", "a b + c d >1 - +", "d"} {
		calls = append(calls, algebraCall{words, 4, func(f []impl.Field) (impl.Field, bool) { return impl.Evaluate(listOf(words), f) }})
	}
	return calls
}

func TestEvaluateAndMemory(t *testing.T) {
	fields := []impl.Field{
		fieldOf(3, 2, 1, -7, gone, 5, 0, -90), fieldOf(3, 2, filled(6, gone)...), fieldOf(3, 2, filled(6, 4)...), fieldOf(3, 2, 1, 2, 3, 4, 5, 6),
	}
	for _, call := range evaluationCalls() {
		for i := range fields {
			checkMemory(t, call, []impl.Field{fields[i], fields[(i+1)%4], fields[(i+2)%4], fields[(i+3)%4]})
		}
		f, room := roomy(fields[0])
		before := slices.Clone(room)
		made, ok := call.run([]impl.Field{f, f, f, f})
		if !ok || shareElements(made.Cells, room) || !slices.Equal(room, before) {
			t.Errorf("%s = %v, %v, from %v", call.name, made, ok, room)
		}
	}
}

func TestEvaluateReadsNothingBehindTheLengths(t *testing.T) {
	list := listOf("a b + + c")
	fields := []impl.Field{fieldOf(1, 1, 1), fieldOf(1, 1, 2), fieldOf(2, 1, 3, 4), {}, {}}
	for cut, want := range map[int]int{1: 1, 3: 3} {
		f, ok := impl.Evaluate(list[:cut], fields[:2])
		expectField(t, "a part of a list", f, ok, fieldOf(1, 1, want))
	}
	for _, cut := range []int{0, 2, 4} {
		f, ok := impl.Evaluate(list[:cut], fields[:2])
		expectNoField(t, "a part of a list", f, ok)
	}
	before := []int{fields[0].Cells[0], fields[1].Cells[0], fields[2].Cells[0], fields[2].Cells[1]}
	f, ok := impl.Evaluate(list[:3], fields[:1])
	expectNoField(t, "b behind the fields", f, ok)
	f, ok = impl.Evaluate(list[:3], fields[:3])
	expectNoField(t, "another shape", f, ok)
	if !slices.Equal(before, []int{1, 2, 3, 4}) || !slices.Equal(list, listOf("a b + + c")) {
		t.Error("arguments are modified")
	}
}

func TestOtherFunctionsLeaveTheList(t *testing.T) {
	for _, words := range []string{"a", "1 2 +", "d c b a + + +", "a b", "+", ""} {
		list := append(listOf(words), listOf("a b +")...)
		before := slices.Clone(list)
		part := list[:len(list)-3]
		impl.IsExpression(part)
		impl.FormatExpression(part)
		impl.Depth(part)
		used, _ := impl.FieldsUsed(part)
		second, _ := impl.FieldsUsed(part)
		if shareElements(used, second) || !slices.Equal(list, before) {
			t.Errorf("%s: %v, %v and %v", words, list, used, second)
		}
	}
}
