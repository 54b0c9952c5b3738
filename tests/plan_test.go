package tests

import (
	"hash/fnv"
	"math"
	"math/rand"
	"reflect"
	"strconv"
	"strings"
	"testing"

	"loop.example/kilncrew/impl"
)

// sumOf is held against Value; the document's sum is known elsewhere as FNV-1a.
func sumOf(text string) string {
	h := fnv.New64a()
	h.Write([]byte(text))
	return string(h.Sum(nil))
}

func valueOf(name string, inputs ...string) string {
	return sumOf(strings.Join(append([]string{name}, inputs...), "\x00"))
}

// plainPlan has n tasks of different names that stand on nothing.
func plainPlan(n int) impl.Plan {
	p := impl.Plan{}
	for i := range n {
		p.Tasks = append(p.Tasks, impl.Task{Name: "t" + strconv.Itoa(i), Cost: 1})
	}
	return p
}

// planWith is plainPlan with one task changed.
func planWith(n, task int, change func(t *impl.Task)) impl.Plan {
	p := plainPlan(n)
	change(&p.Tasks[task])
	return p
}

func named(name string) impl.Plan {
	return planWith(3, 1, func(t *impl.Task) { t.Name = name })
}

func costing(cost int) impl.Plan {
	return planWith(3, 1, func(t *impl.Task) { t.Cost = cost })
}

func standing(n, task int, deps ...int) impl.Plan {
	return planWith(n, task, func(t *impl.Task) { t.Deps = deps })
}

func clonePlan(p impl.Plan) impl.Plan {
	c := impl.Plan{Tasks: append([]impl.Task(nil), p.Tasks...)}
	for i := range c.Tasks {
		c.Tasks[i].Deps = append([]int(nil), p.Tasks[i].Deps...)
	}
	return c
}

func randomPlan(r *rand.Rand) impl.Plan {
	p := plainPlan(1 + r.Intn(impl.MaxTasks))
	for i := range p.Tasks {
		p.Tasks[i].Cost = 1 + r.Intn(impl.MaxCost)
		for d := range i {
			if len(p.Tasks[i].Deps) < impl.MaxDeps && r.Intn(4) == 0 {
				p.Tasks[i].Deps = append(p.Tasks[i].Deps, d)
			}
		}
	}
	return p
}

func TestValueKnownSums(t *testing.T) {
	for _, c := range []struct {
		name   string
		inputs []string
		want   string
	}{
		{"", nil, "\xcb\xf2\x9c\xe4\x84\x22\x23\x25"},
		{"a", nil, "\xaf\x63\xdc\x4c\x86\x01\xec\x8c"},
		{"foobar", nil, "\x85\x94\x41\x71\xf7\x39\x67\xe8"},
		{"a", []string{}, "\xaf\x63\xdc\x4c\x86\x01\xec\x8c"},
		{"", []string{""}, sumOf("\x00")},
		{"a", []string{"b", "c"}, sumOf("a\x00b\x00c")},
		{"a", []string{"c", "b"}, sumOf("a\x00c\x00b")},
		{"a", []string{"", ""}, sumOf("a\x00\x00")},
		{"\xff\xc3\xa9", []string{"\x00\x80"}, sumOf("\xff\xc3\xa9\x00\x00\x80")},
	} {
		if got := impl.Value(c.name, c.inputs); got != c.want {
			t.Errorf("Value(%q, %q) = %x, want %x", c.name, c.inputs, got, c.want)
		}
	}
}

func TestValueAnyTexts(t *testing.T) {
	r := rand.New(rand.NewSource(1))
	for range 500 {
		texts := make([]string, 1+r.Intn(12))
		for i := range texts {
			b := make([]byte, r.Intn(40))
			r.Read(b)
			texts[i] = string(b)
		}
		if got, want := impl.Value(texts[0], texts[1:]), valueOf(texts[0], texts[1:]...); got != want {
			t.Fatalf("Value of %q = %x, want %x", texts, got, want)
		}
	}
}

func TestValidPlans(t *testing.T) {
	for name, p := range map[string]impl.Plan{
		"one task":           plainPlan(1),
		"40 tasks":           plainPlan(40),
		"a name of 1 byte":   named("x"),
		"a name of 30 bytes": named(strings.Repeat("n", 30)),
		"names alike":        {Tasks: []impl.Task{{Name: "a", Cost: 1}, {Name: "A", Cost: 1}, {Name: "aa", Cost: 1}}},
		"cost 1":             costing(1),
		"cost 20":            costing(20),
		"8 deps":             standing(10, 9, 0, 1, 2, 3, 4, 5, 6, 8),
		"the one in front":   standing(40, 39, 38),
		"task 0":             standing(2, 1, 0),
		"an empty list":      standing(2, 1, []int{}...),
	} {
		if got := impl.CheckPlan(p); got != 0 {
			t.Errorf("%s: code %d", name, got)
		}
		if got := impl.Truth(p); len(got) != len(p.Tasks) {
			t.Errorf("%s: Truth has %d values", name, len(got))
		}
	}
}

func TestBytesOfNames(t *testing.T) {
	for b := range 256 {
		want := 2
		if 33 <= b && b <= 126 {
			want = 0
		}
		one := string([]byte{byte(b)})
		for _, name := range []string{one, one + "zz", "zz" + one, "z" + one + "z"} {
			if got := impl.CheckPlan(named(name)); got != want {
				t.Errorf("name %q: code %d", name, got)
			}
		}
	}
}

// wrongPlans are plans with one fault each, by code.
func wrongPlans() map[int][]impl.Plan {
	w := map[int][]impl.Plan{
		1: {{}, {Tasks: []impl.Task{}}, plainPlan(41), plainPlan(1000)},
		3: {costing(0), costing(21), costing(-1), costing(math.MaxInt), costing(math.MinInt), planWith(40, 39, func(t *impl.Task) { t.Cost = 0 })},
		4: {
			standing(10, 9, 0, 1, 2, 3, 4, 5, 6, 7, 8),
			standing(40, 39, 0, 1, 2, 3, 4, 5, 6, 7, 8),
			standing(3, 2, 1, 0),
			standing(3, 2, 0, 0),
			standing(4, 3, 0, 2, 1),
			standing(3, 0, 0),
			standing(3, 1, 1),
			standing(3, 1, 2),
			standing(3, 1, 0, 1),
			standing(3, 2, 3),
			standing(3, 2, -1),
			standing(3, 2, -1, 0),
			standing(3, 2, math.MinInt),
			standing(3, 2, 0, math.MaxInt),
			standing(3, 2, make([]int, 500)...),
		},
	}
	for _, name := range []string{"", strings.Repeat("n", 31), strings.Repeat("n", 5000), "\x20", "\x7f", "\x80", "\xff", "\x00", "a b", "a\n", "\ta", "é", "a~\x7f", " a", "t0", "t2"} {
		w[2] = append(w[2], named(name))
	}
	w[2] = append(w[2], planWith(40, 39, func(t *impl.Task) { t.Name = "t0" }))
	return w
}

func TestWrongPlans(t *testing.T) {
	for code, plans := range wrongPlans() {
		for i, p := range plans {
			if got := impl.CheckPlan(p); got != code {
				t.Errorf("case %d of code %d: code %d", i, code, got)
			}
			if got := impl.Truth(p); len(got) != 0 {
				t.Errorf("case %d of code %d: Truth %q", i, code, got)
			}
		}
	}
}

// TestFirstCode lays two faults into one plan, in one task and in two, in either order.
func TestFirstCode(t *testing.T) {
	faults := map[int][]func(t *impl.Task){
		2: {func(t *impl.Task) { t.Name = "" }, func(t *impl.Task) { t.Name = "t0" }},
		3: {func(t *impl.Task) { t.Cost = 0 }, func(t *impl.Task) { t.Cost = 21 }},
		4: {func(t *impl.Task) { t.Deps = []int{50} }, func(t *impl.Task) { t.Deps = make([]int, 9) }},
	}
	for a := 2; a <= 4; a++ {
		for b := a + 1; b <= 4; b++ {
			for _, first := range faults[a] {
				for _, second := range faults[b] {
					for _, at := range [][2]int{{1, 1}, {1, 3}, {3, 1}, {4, 2}} {
						p := plainPlan(5)
						first(&p.Tasks[at[0]])
						second(&p.Tasks[at[1]])
						if got := impl.CheckPlan(p); got != a {
							t.Errorf("faults %d at %d and %d at %d: code %d", a, at[0], b, at[1], got)
						}
					}
				}
			}
		}
		for _, fault := range faults[a] {
			p := plainPlan(41)
			fault(&p.Tasks[1])
			if got := impl.CheckPlan(p); got != 1 {
				t.Errorf("41 tasks and fault %d: code %d", a, got)
			}
		}
	}
}

func checkTruth(t *testing.T, p impl.Plan) {
	t.Helper()
	truth := impl.Truth(p)
	if len(truth) != len(p.Tasks) {
		t.Fatalf("%d values of %d tasks", len(truth), len(p.Tasks))
	}
	want := make([]string, len(p.Tasks))
	for i, task := range p.Tasks {
		var inputs []string
		for _, d := range task.Deps {
			inputs = append(inputs, want[d])
		}
		want[i] = valueOf(task.Name, inputs...)
		if truth[i] != want[i] || truth[i] != impl.Value(task.Name, inputs) {
			t.Fatalf("task %d gives %x, want %x", i, truth[i], want[i])
		}
	}
}

func TestTruth(t *testing.T) {
	checkTruth(t, plainPlan(1))
	chain, wide := plainPlan(40), plainPlan(40)
	for i := range 40 {
		for d := max(0, i-1); d < i; d++ {
			chain.Tasks[i].Deps = append(chain.Tasks[i].Deps, d)
		}
		for d := max(0, i-8); d < i; d++ {
			wide.Tasks[i].Deps = append(wide.Tasks[i].Deps, d)
		}
	}
	checkTruth(t, chain)
	checkTruth(t, wide)
	r := rand.New(rand.NewSource(2))
	for range 200 {
		checkTruth(t, randomPlan(r))
	}
}

func TestTruthDoesNotHangOnCost(t *testing.T) {
	if !reflect.DeepEqual(impl.Truth(costing(1)), impl.Truth(costing(20))) {
		t.Error("the cost changes what is given")
	}
}

func TestPlansStayAsTheyAre(t *testing.T) {
	r := rand.New(rand.NewSource(3))
	for range 50 {
		p := randomPlan(r)
		was := clonePlan(p)
		impl.CheckPlan(p)
		first := impl.Truth(p)
		if !reflect.DeepEqual(clonePlan(p), was) {
			t.Fatal("the plan was changed")
		}
		want := append([]string(nil), first...)
		for i := range first[:cap(first)] {
			first[:cap(first)][i] = "spoiled"
		}
		if !reflect.DeepEqual(impl.Truth(p), want) {
			t.Fatal("an answer is not new memory")
		}
	}
}

func TestValueLeavesInputs(t *testing.T) {
	room := []string{"a", "b", "behind"}
	impl.Value("n", room[:2])
	if !reflect.DeepEqual(room, []string{"a", "b", "behind"}) {
		t.Errorf("the inputs were changed: %q", room)
	}
}
