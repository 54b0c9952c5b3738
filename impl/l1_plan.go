// Package impl: a coordinator and its workers.
package impl

// Limits of plans.
const (
	MaxTasks = 40
	MaxDeps  = 8
	MaxName  = 30
	MaxCost  = 20
)

// Task is what is to be done.
type Task struct {
	Name string
	Cost int
	Deps []int
}

// Plan is all that is to be done.
type Plan struct {
	Tasks []Task
}

// The sum of a text begins as sumStart, is multiplied by sumFactor at each byte, and is written in sumBytes bytes.
const (
	sumStart  uint64 = 14695981039346656037
	sumFactor uint64 = 1099511628211
	sumBytes         = 8
)

// CheckPlan says what is wrong with a plan.
func CheckPlan(p Plan) int {
	// A later code is looked for in no task before an earlier one is ruled out in all of them.
	switch {
	case len(p.Tasks) < 1 || len(p.Tasks) > MaxTasks:
		return 1
	case !namesHold(p.Tasks):
		return 2
	case !costsHold(p.Tasks):
		return 3
	case !allDepsHold(p.Tasks):
		return 4
	}
	return 0
}

func namesHold(tasks []Task) bool {
	bearers := make(map[string]int)
	for i, t := range tasks {
		if _, met := bearers[t.Name]; met || !isName(t.Name) {
			return false
		}
		bearers[t.Name] = i
	}
	return true
}

func isName(name string) bool {
	if len(name) < 1 || len(name) > MaxName {
		return false
	}
	// Gone through by bytes: the document's bounds are of bytes, and a range would give runes.
	for i := 0; i < len(name); i++ {
		if name[i] < 33 || name[i] > 126 {
			return false
		}
	}
	return true
}

func costsHold(tasks []Task) bool {
	for _, t := range tasks {
		if t.Cost < 1 || t.Cost > MaxCost {
			return false
		}
	}
	return true
}

func allDepsHold(tasks []Task) bool {
	for i, t := range tasks {
		if !depsHold(t.Deps, i) {
			return false
		}
	}
	return true
}

func depsHold(deps []int, task int) bool {
	if len(deps) > MaxDeps {
		return false
	}
	least := 0
	for _, d := range deps {
		if d < least || d >= task {
			return false
		}
		least = d + 1
	}
	return true
}

// Value is what a task gives.
func Value(name string, inputs []string) string {
	sum := addToSum(sumStart, name)
	for _, input := range inputs {
		sum = addToSum(sum, "\x00")
		sum = addToSum(sum, input)
	}
	return sumText(sum)
}

func addToSum(sum uint64, text string) uint64 {
	for i := 0; i < len(text); i++ {
		sum ^= uint64(text[i])
		sum *= sumFactor
	}
	return sum
}

func sumText(sum uint64) string {
	text := make([]byte, sumBytes)
	for i := sumBytes - 1; i >= 0; i-- {
		text[i] = byte(sum)
		sum >>= 8
	}
	return string(text)
}

// Truth is what each task of a plan gives.
func Truth(p Plan) []string {
	if CheckPlan(p) != 0 {
		return nil
	}
	m := memo{tasks: p.Tasks, values: make([]*string, len(p.Tasks))}
	truth := make([]string, len(p.Tasks))
	for i := range truth {
		truth[i] = *m.value(i)
	}
	return truth
}

// A memo keeps the values of a valid plan's tasks; nil stands for one that nobody has asked for yet.
type memo struct {
	tasks  []Task
	values []*string
}

// value comes to an end because the Deps of a valid plan's task all stand in front of it.
func (m *memo) value(task int) *string {
	if m.values[task] == nil {
		t := m.tasks[task]
		inputs := make([]string, len(t.Deps))
		for i, d := range t.Deps {
			inputs[i] = *m.value(d)
		}
		v := Value(t.Name, inputs)
		m.values[task] = &v
	}
	return m.values[task]
}
