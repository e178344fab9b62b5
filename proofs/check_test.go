package proofs_test

import (
	"math"
	"slices"
	"testing"

	"assayer/api"
	"assayer/ints"
	"assayer/proofs"
	"assayer/rats"
)

// wantCheck wants Check's answer to be that, and what the chapter says, too.
func wantCheck(t *testing.T, what string, n api.Norm, p api.Proof, want bool) {
	t.Helper()
	if ref := refCheck(n, p); ref != want {
		t.Fatalf("%s: the test asks for %t, but it is %t", what, want, ref)
	}
	if got := proofs.Check(n, p); got != want {
		t.Errorf("%s: Check: %t", what, got)
	}
}

// emptyExample is a norm of which one must be whole between 1/3 and 2/3, and the proof that none fits.
func emptyExample(t *testing.T) (api.Norm, api.Proof) {
	t.Helper()
	return norm(t, "3; -3", "2 -1", "1", "w"), api.Proof{
		Verdict: api.VeEmpty,
		Nodes:   []api.Node{split(0, 0, 1, 2), leaf(t, "0 1/3 1"), leaf(t, "1/3 0 1")},
	}
}

// endlessExample is a norm of two, of which one must be whole, and the proof that there is better and better.
func endlessExample(t *testing.T) (api.Norm, api.Proof) {
	t.Helper()
	return norm(t, "-1 0; 0 -1; 1 -2", "0 0 5", "1 -1", "w-"), api.Proof{
		Verdict: api.VeEndless, Point: list(t, "3 1/2"), Ray: list(t, "1 1/2"),
	}
}

func TestCheckExamples(t *testing.T) { // P14.1
	n, p := example(t)
	wantCheck(t, "the example", n, p, true)
	wantCheck(t, "one node", n, api.Proof{Verdict: api.VeBest, Point: p.Point, Value: p.Value, Nodes: []api.Node{leaf(t, "1 0")}}, false)
	wantCheck(t, "none fits, it says", n, api.Proof{Verdict: api.VeEmpty, Nodes: []api.Node{leaf(t, "1 1")}}, false)
	n, p = emptyExample(t)
	wantCheck(t, "none fits", n, p, true)
	n, p = endlessExample(t)
	wantCheck(t, "better and better", n, p, true)
}

// TestVerdicts: each proof shows its own verdict alone.
func TestVerdicts(t *testing.T) { // P14.1
	for own, of := range map[api.Verdict]func(*testing.T) (api.Norm, api.Proof){api.VeBest: example, api.VeEmpty: emptyExample, api.VeEndless: endlessExample} {
		for verdict := range 256 {
			n, p := of(t)
			p.Verdict = api.Verdict(verdict)
			wantCheck(t, "another verdict", n, p, p.Verdict == own)
		}
	}
	n, _ := example(t)
	for verdict := range 256 {
		wantCheck(t, "nothing but a verdict", n, api.Proof{Verdict: api.Verdict(verdict)}, false)
		wantCheck(t, "nothing at all", api.Norm{}, api.Proof{Verdict: api.Verdict(verdict)}, false)
	}
}

func TestBest(t *testing.T) { // P14.1
	type change = func(n *api.Norm, p *api.Proof)
	for what, c := range map[string]struct {
		change change
		want   bool
	}{
		"as it is":                       {func(n *api.Norm, p *api.Proof) {}, true},
		"an empty ray":                   {func(n *api.Norm, p *api.Proof) { p.Ray = []api.Rat{} }, true},
		"a ray":                          {func(n *api.Norm, p *api.Proof) { p.Ray = list(t, "0") }, false},
		"a ray that may not be":          {func(n *api.Norm, p *api.Proof) { p.Ray = mayNot()[:1] }, false},
		"a lesser point":                 {func(n *api.Norm, p *api.Proof) { p.Point = list(t, "1") }, false},
		"a lesser point, and value":      {func(n *api.Norm, p *api.Proof) { p.Point, p.Value = list(t, "1"), rats.Of(1) }, false},
		"a point that does not fit":      {func(n *api.Norm, p *api.Proof) { p.Point, p.Value = list(t, "3"), rats.Of(3) }, false},
		"a point that is not whole":      {func(n *api.Norm, p *api.Proof) { p.Point, p.Value = list(t, "5/2"), list(t, "5/2")[0] }, false},
		"no point":                       {func(n *api.Norm, p *api.Proof) { p.Point = nil }, false},
		"a long point":                   {func(n *api.Norm, p *api.Proof) { p.Point = list(t, "2 0") }, false},
		"a greater value":                {func(n *api.Norm, p *api.Proof) { p.Value = rats.Of(3) }, false},
		"a lesser value":                 {func(n *api.Norm, p *api.Proof) { p.Value = rats.Of(1) }, false},
		"no value":                       {func(n *api.Norm, p *api.Proof) { p.Value = api.Rat{} }, false},
		"no nodes":                       {func(n *api.Norm, p *api.Proof) { p.Nodes = nil }, false},
		"a node too many":                {func(n *api.Norm, p *api.Proof) { p.Nodes = append(p.Nodes, leaf(t, "0 0 0")) }, false},
		"a node too few":                 {func(n *api.Norm, p *api.Proof) { p.Nodes = p.Nodes[:2] }, false},
		"nodes that are changed round":   {func(n *api.Norm, p *api.Proof) { p.Nodes[1], p.Nodes[2] = p.Nodes[2], p.Nodes[1] }, false},
		"split the other way about":      {func(n *api.Norm, p *api.Proof) { p.Nodes[0].Less, p.Nodes[0].More = 2, 1 }, false},
		"both changed":                   {func(n *api.Norm, p *api.Proof) { p.Nodes = []api.Node{split(0, 2, 2, 1), p.Nodes[2], p.Nodes[1]} }, true},
		"split too high":                 {func(n *api.Norm, p *api.Proof) { p.Nodes[0].At = ints.Of(3) }, false},
		"split too low":                  {func(n *api.Norm, p *api.Proof) { p.Nodes[0].At = ints.Of(1) }, false},
		"a row that says more":           {func(n *api.Norm, p *api.Proof) { n.Right[0] = list(t, "299/100")[0] }, true},
		"a row that says enough no more": {func(n *api.Norm, p *api.Proof) { n.Right[0] = rats.Of(3) }, false},
		"a goal that is another":         {func(n *api.Norm, p *api.Proof) { n.Goal[0] = rats.Of(2) }, false},
		"a goal, a value, and as many": {func(n *api.Norm, p *api.Proof) {
			n.Goal[0], p.Value, p.Nodes[1] = rats.Of(2), rats.Of(4), leaf(t, "0 0 2")
		}, true},
		"a goal turned":                  {func(n *api.Norm, p *api.Proof) { n.Goal[0], p.Value = rats.Of(-1), rats.Of(-2) }, false},
		"Less says too little":           {func(n *api.Norm, p *api.Proof) { p.Nodes[1] = leaf(t, "1 0 0") }, false},
		"Less says another thing":        {func(n *api.Norm, p *api.Proof) { p.Nodes[1] = leaf(t, "0 0 2") }, false},
		"Less says nothing":              {func(n *api.Norm, p *api.Proof) { p.Nodes[1] = leaf(t, "0 0 0") }, false},
		"Less says it of part of a row":  {func(n *api.Norm, p *api.Proof) { p.Nodes[1] = leaf(t, "1/2 0 1/2") }, false},
		"Less says it with noughts":      {func(n *api.Norm, p *api.Proof) { p.Nodes[1] = leaf(t, "1/2 1/2 1") }, false},
		"Less says that none fits":       {func(n *api.Norm, p *api.Proof) { n.Right[1], p.Nodes[1] = rats.Of(-2), leaf(t, "0 1 1") }, false},
		"More says too much":             {func(n *api.Norm, p *api.Proof) { p.Nodes[2] = leaf(t, "2 1 1") }, false},
		"More says it twice":             {func(n *api.Norm, p *api.Proof) { p.Nodes[2] = leaf(t, "2 0 2") }, true},
		"More says that it goes up to 0": {func(n *api.Norm, p *api.Proof) { n.Right[0] = rats.Of(3) }, false},
		"More says nothing":              {func(n *api.Norm, p *api.Proof) { p.Nodes[2] = leaf(t, "0 0 0") }, false},
		"a norm of what is not whole":    {func(n *api.Norm, p *api.Proof) { n.Whole[0] = false }, false},
	} {
		n, p := example(t)
		c.change(&n, &p)
		wantCheck(t, what, n, p, c.want)
	}
	for _, odd := range mayNot() {
		n, p := example(t)
		p.Value = odd
		wantCheck(t, "a value that may not be", n, p, false)
		n, p = example(t)
		p.Point[0] = odd
		wantCheck(t, "a point that may not be", n, p, false)
	}
}

// TestBestOfNought: of a goal of noughts, a value that may not be is not 0.
func TestBestOfNought(t *testing.T) { // P14.1
	n := norm(t, "1; -1", "2 0", "0", "w")
	p := api.Proof{Verdict: api.VeBest, Point: list(t, "1"), Value: rats.Of(0), Nodes: []api.Node{leaf(t, "0 0")}}
	wantCheck(t, "any point is best", n, p, true)
	p.Nodes[0] = leaf(t, "1 1")
	wantCheck(t, "at most 2", n, p, false)
	for _, odd := range mayNot() {
		p.Nodes[0], p.Value = leaf(t, "0 0"), odd
		wantCheck(t, "a value that may not be", n, p, false)
	}
}

// TestBestOne: one node is enough, where nothing need be split; a leaf that none fits may stand beside.
func TestBestOne(t *testing.T) { // P14.1
	n := norm(t, "1 1; -1 0; 0 -1; 1 -1", "4 0 0 5/2", "3 1", "--")
	best := func(point, value string, nodes ...api.Node) api.Proof {
		return api.Proof{Verdict: api.VeBest, Point: list(t, point), Value: list(t, value)[0], Nodes: nodes}
	}
	wantCheck(t, "one node", n, best("13/4 3/4", "21/2", leaf(t, "2 0 0 1")), true)
	wantCheck(t, "too little", n, best("13/4 3/4", "21/2", leaf(t, "3 0 2 0")), false)
	wantCheck(t, "only the first column", n, best("13/4 3/4", "21/2", leaf(t, "3 0 0 0")), false)
	wantCheck(t, "a lesser point", n, best("3 1", "10", leaf(t, "2 0 0 1")), false)
	wantCheck(t, "a split of what need not be whole", n, best("13/4 3/4", "21/2", split(0, 3, 1, 2), leaf(t, "2 0 0 1 0"), leaf(t, "2 0 0 1 0")), false)
	n.Whole[0] = true
	wantCheck(t, "what must be whole is not", n, best("13/4 3/4", "21/2", leaf(t, "2 0 0 1")), false)
	wantCheck(t, "split", n, best("3 1", "10", split(0, 3, 1, 2), leaf(t, "1 0 0 0 2"), leaf(t, "1/2 0 0 1/2 1")), true)
	wantCheck(t, "split, and a leaf that none fits", n, best("3 1", "10", split(0, 3, 2, 1), leaf(t, "1 0 0 1 2"), leaf(t, "1 0 0 0 2")), true)
	wantCheck(t, "split, of the other one", n, best("3 1", "10", split(1, 3, 2, 1), leaf(t, "1 0 0 1 2"), leaf(t, "1 0 0 0 2")), false)
	wantCheck(t, "split twice", n, best("3 1", "10", split(0, 3, 2, 1), leaf(t, "1/2 0 0 1/2 1"), split(0, -1, 3, 4), leaf(t, "0 1 0 0 0 1"), leaf(t, "1 0 0 0 2 0")), true)
	wantCheck(t, "split twice, a leaf says nothing", n, best("3 1", "10", split(0, 3, 2, 1), leaf(t, "1/2 0 0 1/2 1"), split(0, -1, 3, 4), leaf(t, "0 0 0 0 0 0"), leaf(t, "1 0 0 0 2 0")), false)
	none := norm(t, "", "", "0 0", "--")
	wantCheck(t, "no rows, and a goal of noughts", none, best("7 -1/2", "0", leaf(t, "")), true)
	none.Goal[1] = rats.Of(1)
	wantCheck(t, "no rows, and a goal", none, best("7 0", "0", leaf(t, "")), false)
}

func TestEmpty(t *testing.T) { // P14.1
	for what, c := range map[string]struct {
		change func(n *api.Norm, p *api.Proof)
		want   bool
	}{
		"as it is": {func(n *api.Norm, p *api.Proof) {}, true},
		"empty lists": {func(n *api.Norm, p *api.Proof) {
			p.Point, p.Ray, p.Value = []api.Rat{}, []api.Rat{}, api.Rat{Num: api.Int{N: api.Nat{}}, Den: api.Nat{}}
		}, true},
		"a point":                       {func(n *api.Norm, p *api.Proof) { p.Point = list(t, "0") }, false},
		"a point that may not be":       {func(n *api.Norm, p *api.Proof) { p.Point = mayNot()[:1] }, false},
		"a ray":                         {func(n *api.Norm, p *api.Proof) { p.Ray = list(t, "0") }, false},
		"a ray that may not be":         {func(n *api.Norm, p *api.Proof) { p.Ray = mayNot()[:1] }, false},
		"a value":                       {func(n *api.Norm, p *api.Proof) { p.Value = rats.Of(0) }, false},
		"a value of 1":                  {func(n *api.Norm, p *api.Proof) { p.Value = rats.Of(1) }, false},
		"no nodes":                      {func(n *api.Norm, p *api.Proof) { p.Nodes = nil }, false},
		"no tree":                       {func(n *api.Norm, p *api.Proof) { p.Nodes = append(p.Nodes, p.Nodes[1]) }, false},
		"split too low":                 {func(n *api.Norm, p *api.Proof) { p.Nodes[0].At = ints.Of(-1) }, false},
		"split too high":                {func(n *api.Norm, p *api.Proof) { p.Nodes[0].At = ints.Of(1) }, false},
		"0 fits":                        {func(n *api.Norm, p *api.Proof) { n.Right[1] = rats.Of(0) }, false},
		"1 fits":                        {func(n *api.Norm, p *api.Proof) { n.Right[0] = rats.Of(3) }, false},
		"Less says at most something":   {func(n *api.Norm, p *api.Proof) { p.Nodes[1] = leaf(t, "0 0 1") }, false},
		"Less says too much":            {func(n *api.Norm, p *api.Proof) { p.Nodes[1] = leaf(t, "0 1 1") }, false},
		"Less says it thrice":           {func(n *api.Norm, p *api.Proof) { p.Nodes[1] = leaf(t, "0 1 3") }, true},
		"More says nothing":             {func(n *api.Norm, p *api.Proof) { p.Nodes[2] = leaf(t, "0 0 0") }, false},
		"the goal is no matter":         {func(n *api.Norm, p *api.Proof) { n.Goal[0] = rats.Of(0) }, true},
		"the goal, where none need fit": {func(n *api.Norm, p *api.Proof) { n.Goal[0], p.Nodes[1] = rats.Of(-3), leaf(t, "0 1 0") }, false},
		"it need not be whole":          {func(n *api.Norm, p *api.Proof) { n.Whole[0] = false }, false},
		"rows against each other":       {func(n *api.Norm, p *api.Proof) { n.Right[1], p.Nodes = rats.Of(-3), []api.Node{leaf(t, "1 1")} }, true},
		"rows just beside each other":   {func(n *api.Norm, p *api.Proof) { n.Right[1], p.Nodes = rats.Of(-2), []api.Node{leaf(t, "1 1")} }, false},
		"a row of noughts": {func(n *api.Norm, p *api.Proof) {
			*n, p.Nodes = norm(t, "0", "-1/7", "1", "-"), []api.Node{leaf(t, "1/9")}
		}, true},
		"a row of noughts, not taken": {func(n *api.Norm, p *api.Proof) {
			*n, p.Nodes = norm(t, "0", "-1/7", "1", "-"), []api.Node{leaf(t, "0")}
		}, false},
		"a row of noughts, at most 0": {func(n *api.Norm, p *api.Proof) { *n, p.Nodes = norm(t, "0", "0", "1", "-"), []api.Node{leaf(t, "1")} }, false},
		"only the last column is left": {func(n *api.Norm, p *api.Proof) {
			*n, p.Nodes = norm(t, "0 0 1", "-1", "1 1 1", "---"), []api.Node{leaf(t, "1")}
		}, false},
		"only the first column is left": {func(n *api.Norm, p *api.Proof) {
			*n, p.Nodes = norm(t, "-1 0 0", "-1", "1 1 1", "---"), []api.Node{leaf(t, "1")}
		}, false},
		"a left that is the goal itself": {func(n *api.Norm, p *api.Proof) { *n, p.Nodes = norm(t, "1", "-1", "1", "-"), []api.Node{leaf(t, "1")} }, false},
	} {
		n, p := emptyExample(t)
		c.change(&n, &p)
		wantCheck(t, what, n, p, c.want)
	}
	for _, odd := range mayNot() {
		n, p := emptyExample(t)
		p.Value = odd
		// The zero struct is what is asked for.
		wantCheck(t, "a value that may not be", n, p, !odd.Num.Neg && len(odd.Num.N) == 0 && len(odd.Den) == 0)
	}
}

func TestEndless(t *testing.T) { // P14.1
	for what, c := range map[string]struct {
		change func(n *api.Norm, p *api.Proof)
		want   bool
	}{
		"as it is": {func(n *api.Norm, p *api.Proof) {}, true},
		"empty nodes, an empty value": {func(n *api.Norm, p *api.Proof) {
			p.Nodes, p.Value = []api.Node{}, api.Rat{Num: api.Int{N: api.Nat{}}, Den: api.Nat{}}
		}, true},
		"a node":                       {func(n *api.Norm, p *api.Proof) { p.Nodes = []api.Node{leaf(t, "0 0 0")} }, false},
		"a value":                      {func(n *api.Norm, p *api.Proof) { p.Value = list(t, "5/2")[0] }, false},
		"a value of 0":                 {func(n *api.Norm, p *api.Proof) { p.Value = rats.Of(0) }, false},
		"another point":                {func(n *api.Norm, p *api.Proof) { p.Point = list(t, "0 0") }, true},
		"a point at the end of a row":  {func(n *api.Norm, p *api.Proof) { p.Point = list(t, "5 0") }, true},
		"a point that does not fit":    {func(n *api.Norm, p *api.Proof) { p.Point = list(t, "6 0") }, false},
		"a point below a bound":        {func(n *api.Norm, p *api.Proof) { p.Point = list(t, "0 -1/9") }, false},
		"a point that is not whole":    {func(n *api.Norm, p *api.Proof) { p.Point = list(t, "1/2 1") }, false},
		"no point":                     {func(n *api.Norm, p *api.Proof) { p.Point = nil }, false},
		"a short point":                {func(n *api.Norm, p *api.Proof) { p.Point = list(t, "3") }, false},
		"a long point":                 {func(n *api.Norm, p *api.Proof) { p.Point = list(t, "3 1/2 0") }, false},
		"no ray":                       {func(n *api.Norm, p *api.Proof) { p.Ray = nil }, false},
		"a short ray":                  {func(n *api.Norm, p *api.Proof) { p.Ray = list(t, "1") }, false},
		"a long ray":                   {func(n *api.Norm, p *api.Proof) { p.Ray = list(t, "1 1/2 0") }, false},
		"a ray of noughts":             {func(n *api.Norm, p *api.Proof) { p.Ray = list(t, "0 0") }, false},
		"a ray that goes down":         {func(n *api.Norm, p *api.Proof) { p.Ray = list(t, "1/2 1") }, false},
		"a ray that goes neither way":  {func(n *api.Norm, p *api.Proof) { p.Ray = list(t, "1 1") }, false},
		"a ray of a little":            {func(n *api.Norm, p *api.Proof) { p.Ray = list(t, "1/1000000000000 1/1500000000000") }, true},
		"a ray against the last row":   {func(n *api.Norm, p *api.Proof) { p.Ray = list(t, "1 499999/1000000") }, false},
		"a ray against the first row":  {func(n *api.Norm, p *api.Proof) { n.Goal, p.Ray = list(t, "-1 0"), list(t, "-1 0") }, false},
		"a ray against the second row": {func(n *api.Norm, p *api.Proof) { p.Ray = list(t, "0 -1") }, false},
		"a ray of any length":          {func(n *api.Norm, p *api.Proof) { p.Ray = list(t, "2000000000000 1000000000001") }, true},
		"the goal of noughts":          {func(n *api.Norm, p *api.Proof) { n.Goal = list(t, "0 0") }, false},
		"the goal turned":              {func(n *api.Norm, p *api.Proof) { n.Goal = list(t, "-1 1") }, false},
		"no rows":                      {func(n *api.Norm, p *api.Proof) { n.Left, n.Right = nil, nil }, true},
		"no rows, and down":            {func(n *api.Norm, p *api.Proof) { n.Left, n.Right, p.Ray = nil, nil, list(t, "-1 0") }, false},
		"a row that ends it": {func(n *api.Norm, p *api.Proof) {
			n.Left, n.Right = append(n.Left, list(t, "1 0")), list(t, "0 0 5 1000000")
		}, false},
		"a row of noughts that holds":     {func(n *api.Norm, p *api.Proof) { n.Left, n.Right = append(n.Left, list(t, "0 0")), list(t, "0 0 5 0") }, true},
		"a row of noughts that does not":  {func(n *api.Norm, p *api.Proof) { n.Left, n.Right = append(n.Left, list(t, "0 0")), list(t, "0 0 5 -1") }, false},
		"a ray that is not whole, anyhow": {func(n *api.Norm, p *api.Proof) { p.Ray = list(t, "1/3 1/4") }, true},
	} {
		n, p := endlessExample(t)
		c.change(&n, &p)
		wantCheck(t, what, n, p, c.want)
	}
	for _, odd := range mayNot() {
		for place := range 2 {
			n, p := endlessExample(t)
			p.Ray[place] = odd
			wantCheck(t, "a ray that may not be", n, p, false)
			n, p = endlessExample(t)
			p.Point[place] = odd
			wantCheck(t, "a point that may not be", n, p, false)
		}
		n, p := endlessExample(t)
		p.Value = odd
		wantCheck(t, "a value that may not be", n, p, !odd.Num.Neg && len(odd.Num.N) == 0 && len(odd.Den) == 0)
	}
	// What may not be counts as 0 elsewhere: here it must be no such ray, though the row asks nothing of that place.
	n := norm(t, "-1 0", "0", "1 0", "--")
	for _, odd := range mayNot() {
		p := api.Proof{Verdict: api.VeEndless, Point: list(t, "0 0"), Ray: []api.Rat{rats.Of(1), odd}}
		wantCheck(t, "a ray that may not be, at noughts", n, p, false)
	}
}

// TestWrongNodes: any node that may not be makes a proof hold no more, at any place.
func TestWrongNodes(t *testing.T) { // P14.1
	for name, of := range map[string]func(*testing.T) (api.Norm, api.Proof){"best": example, "empty": emptyExample} {
		for what, change := range wrongLeaves(t) {
			for node := 1; node <= 2; node++ {
				n, p := of(t)
				change(&p.Nodes[node])
				wantCheck(t, name+": "+what, n, p, false)
			}
		}
		for what, change := range wrongSplits(t) {
			n, p := of(t)
			change(&p.Nodes[0])
			wantCheck(t, name+": "+what, n, p, false)
		}
		for what, wrong := range wrongNorms(t) {
			_, p := of(t)
			wantCheck(t, name+": "+what, wrong, p, false)
		}
		for what, l := range noTrees(t) {
			n, p := of(t)
			p.Nodes = l
			wantCheck(t, name+": "+what, n, p, false)
		}
	}
	for what, wrong := range wrongNorms(t) {
		wantCheck(t, "endless: "+what, wrong, api.Proof{Verdict: api.VeEndless, Point: list(t, "0"), Ray: list(t, "1")}, false)
		wantCheck(t, "endless: "+what, wrong, api.Proof{Verdict: api.VeEndless}, false)
	}
}

// TestNoTreeOfGood: where each node says enough, they must be a tree all the same.
func TestNoTreeOfGood(t *testing.T) { // P14.1
	n := norm(t, "0", "-1", "1", "w")
	enough := func(l []api.Node) []api.Node {
		l = slices.Clone(l)
		for i := range l {
			if l[i].Var < 0 {
				depth := max(len(refPath(l, i))-1, 0)
				l[i].Mult = append(list(t, "1"), slices.Repeat(list(t, "0"), depth)...)
			}
		}
		return l
	}
	one, two := []api.Node{{Var: -1}}, []api.Node{split(0, 0, 1, 2), {Var: -1}, {Var: -1}}
	wantCheck(t, "one", n, api.Proof{Verdict: api.VeEmpty, Nodes: enough(one)}, true)
	wantCheck(t, "two", n, api.Proof{Verdict: api.VeEmpty, Nodes: enough(two)}, true)
	wantCheck(t, "some", n, api.Proof{Verdict: api.VeEmpty, Nodes: enough(chain(20, true))}, true)
	for what, l := range noTrees(t) {
		for depth := range 3 {
			l := enough(l)
			for i := range l {
				if l[i].Var < 0 {
					l[i].Mult = append(list(t, "1"), slices.Repeat(list(t, "0"), depth)...)
				}
			}
			wantCheck(t, what, n, api.Proof{Verdict: api.VeEmpty, Nodes: l}, false)
		}
	}
	// Each leaf is looked at, the last one too, and each split.
	for i := range chain(20, false) {
		p := api.Proof{Verdict: api.VeEmpty, Nodes: enough(chain(20, false))}
		if p.Nodes[i].Var < 0 {
			p.Nodes[i].Mult[0] = rats.Of(0)
		} else {
			p.Nodes[i].Var = 1
		}
		wantCheck(t, "one says nothing", n, p, false)
	}
}

// TestMostNodes: MaxNodes is a limit of Check, too; the greatest tree has one fewer.
func TestMostNodes(t *testing.T) { // P14.1
	n := norm(t, "0", "-1", "1", "w")
	for splits, want := range map[int]bool{2047: true, 2048: false} {
		l := chain(splits, true)
		for i := range l {
			if l[i].Var < 0 {
				l[i].Mult = append(list(t, "1"), slices.Repeat(list(t, "0"), min(i/2+i%2, splits))...)
			}
		}
		p := api.Proof{Verdict: api.VeEmpty, Nodes: l}
		if got := proofs.Check(n, p); got != want || len(l) != 2*splits+1 {
			t.Errorf("%d nodes: %t", len(l), got)
		}
		l[len(l)-1].Mult[0] = rats.Of(0)
		if proofs.Check(n, p) {
			t.Errorf("%d nodes, of which one says nothing", len(l))
		}
	}
}

// TestFarWhole: places and numbers at the ends of what an int can be.
func TestFarWhole(t *testing.T) { // P14.1
	long := list(t, great)[0].Num
	n := norm(t, "1; -1", "5 0", "1", "w")
	n.Right[0] = rats.Add(api.Rat{Num: long, Den: api.Nat{1}}, list(t, "1/2")[0])
	p := api.Proof{Verdict: api.VeBest, Point: []api.Rat{{Num: long, Den: api.Nat{1}}}, Value: api.Rat{Num: long, Den: api.Nat{1}}, Nodes: []api.Node{{Var: 0, At: long, Less: 1, More: 2}, leaf(t, "0 0 1"), leaf(t, "1 0 1")}}
	wantCheck(t, "a great number", n, p, true)
	p.Nodes[0].At = ints.Add(long, ints.Of(1))
	wantCheck(t, "another one", n, p, false)
	for _, place := range []int{math.MaxInt, math.MaxInt32, 1 << 32, 32, 1} {
		p.Nodes[0].At, p.Nodes[0].Var = long, place
		wantCheck(t, "a var that is not there", n, p, false)
	}
}
