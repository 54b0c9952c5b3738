package tests

import (
	"math"
	"math/rand"
	"reflect"
	"strings"
	"testing"

	"loop.example/kilncrew/impl"
)

// crewPlan has tasks of each sort that a worker may be handed: without Deps and with up to eight, cheap and dear.
func crewPlan() impl.Plan {
	p := plainPlan(10)
	p.Tasks[0].Cost = 5
	p.Tasks[1].Deps = []int{0}
	p.Tasks[2].Cost, p.Tasks[2].Deps = 20, []int{0, 1}
	p.Tasks[8].Cost, p.Tasks[8].Deps = 9, []int{0, 1, 2, 3, 4, 5, 6, 7}
	return p
}

func freeWorker() impl.Worker {
	return impl.Worker{Number: 2, Epoch: 3, Up: true, State: impl.WorkFree}
}

func busyWorker() impl.Worker {
	return impl.Worker{Number: 2, Epoch: 3, Up: true, State: impl.WorkBusy, Lease: 700, Task: 2, Cost: 20, Left: 15, Inputs: texts(2)}
}

func toldWorker() impl.Worker {
	return impl.Worker{Number: 2, Epoch: 3, Up: true, State: impl.WorkTold, Lease: 700, Task: 2, Text: "result!!"}
}

func downWorker() impl.Worker {
	return impl.Worker{Number: 2, Epoch: 3}
}

func sampleWorkers() map[string]impl.Worker {
	return map[string]impl.Worker{"free": freeWorker(), "busy": busyWorker(), "told": toldWorker(), "down": downWorker()}
}

func workerWith(w impl.Worker, change func(w *impl.Worker)) impl.Worker {
	w = cloneWorker(w)
	change(&w)
	return w
}

// cloneWorker gives an empty list as nil, so that clones can be held against each other.
func cloneWorker(w impl.Worker) impl.Worker {
	w.Inputs = append([]string(nil), w.Inputs...)
	return w
}

func cloneActed(a impl.Acted) impl.Acted {
	a.Worker = cloneWorker(a.Worker)
	var out []impl.Message
	for _, m := range a.Out {
		out = append(out, cloneMessage(m))
	}
	a.Out = out
	return a
}

// validWorkers are valid ones in each state, each used field at its limits and between.
func validWorkers() []impl.Worker {
	var out []impl.Worker
	for _, number := range []int{1, 5, 8} {
		for _, epoch := range []int{1, 2, 299, 300} {
			out = append(out, impl.Worker{Number: number, Epoch: epoch})
			for _, since := range []int{0, 1, 2, 3, 4, 5, 999999, 1000000} {
				up := impl.Worker{Number: number, Epoch: epoch, Up: true, Since: since}
				out = append(out, up)
				for _, lease := range []int{1, 2, 700, 299999999, 300000000} {
					for _, task := range []int{0, 1, 2, 8, 9, 10, 39} {
						w := up
						w.State, w.Lease, w.Task, w.Text = impl.WorkTold, lease, task, texts(1)[0]
						out = append(out, w)
						for _, work := range [][3]int{{1, 1, 0}, {2, 1, 1}, {2, 2, 8}, {20, 1, 2}, {20, 2, 8}, {20, 20, 0}} {
							w := up
							w.State, w.Lease, w.Task, w.Cost, w.Left, w.Inputs = impl.WorkBusy, lease, task, work[0], work[1], texts(work[2])
							out = append(out, w)
						}
					}
				}
			}
		}
	}
	return out
}

// wrongWorkers are workers that are not valid.
func wrongWorkers() []impl.Worker {
	out := []impl.Worker{{}, {Number: 1}, {Epoch: 1}, {Number: 1, Up: true}}
	for _, w := range sampleWorkers() {
		for _, n := range []int{math.MinInt, -1, 0, 9, math.MaxInt} {
			out = append(out, workerWith(w, func(w *impl.Worker) { w.Number = n }))
		}
		for _, n := range []int{math.MinInt, -1, 0, 301, math.MaxInt} {
			out = append(out, workerWith(w, func(w *impl.Worker) { w.Epoch = n }))
		}
		for _, n := range []int{math.MinInt, -1, 1000001, math.MaxInt} {
			out = append(out, workerWith(w, func(w *impl.Worker) { w.Since = n }))
		}
		for _, n := range []int{math.MinInt, -1, 3, 4, 256, math.MaxInt} {
			out = append(out, workerWith(w, func(w *impl.Worker) { w.State = n }))
		}
	}
	out = append(out,
		workerWith(busyWorker(), func(w *impl.Worker) { w.Left = 0 }),
		workerWith(busyWorker(), func(w *impl.Worker) { w.Left = 21 }),
		workerWith(busyWorker(), func(w *impl.Worker) { w.Up = false }),
		workerWith(toldWorker(), func(w *impl.Worker) { w.Up = false }),
		workerWith(toldWorker(), func(w *impl.Worker) { w.Text = "" }),
		workerWith(toldWorker(), func(w *impl.Worker) { w.Inputs = texts(1) }),
		workerWith(freeWorker(), func(w *impl.Worker) { w.Lease = 1 }),
		workerWith(downWorker(), func(w *impl.Worker) { w.Since = 3 }))
	return out
}

func TestWorkersAreTheDocuments(t *testing.T) {
	got := []int{impl.WorkFree, impl.WorkBusy, impl.WorkTold, impl.BeatTicks, impl.HereTicks, impl.MaxTime}
	if !reflect.DeepEqual(got, []int{0, 1, 2, 4, 3, 1000000}) {
		t.Errorf("%v", got)
	}
}

func TestValidWorkers(t *testing.T) {
	for _, w := range validWorkers() {
		if !impl.ValidWorker(w) {
			t.Fatalf("%+v is not valid", w)
		}
	}
	for name, w := range sampleWorkers() {
		if w.State != impl.WorkBusy {
			w.Inputs = []string{}
		}
		if !impl.ValidWorker(w) {
			t.Errorf("%s: %+v is not valid", name, w)
		}
	}
}

// TestFieldsOfWorkers gives each number of a worker in each state values at, within and beyond its limits; one that a state does not use has the limits 0 and 0.
func TestFieldsOfWorkers(t *testing.T) {
	type limits map[string][2]int
	numbers := []int{math.MinInt, -256, -1, 0, 1, 2, 3, 8, 9, 14, 15, 16, 19, 20, 21, 39, 40, 255, 256, 257, 300, 301, 1000000, 1000001, 300000000, 300000001, 1<<32 + 1, 1<<40 + 5, math.MaxInt}
	for _, f := range []struct {
		name string
		set  func(w *impl.Worker, n int)
		in   limits
	}{
		{"Number", func(w *impl.Worker, n int) { w.Number = n }, limits{"free": {1, 8}, "busy": {1, 8}, "told": {1, 8}, "down": {1, 8}}},
		{"Epoch", func(w *impl.Worker, n int) { w.Epoch = n }, limits{"free": {1, 300}, "busy": {1, 300}, "told": {1, 300}, "down": {1, 300}}},
		{"Since", func(w *impl.Worker, n int) { w.Since = n }, limits{"free": {0, 1000000}, "busy": {0, 1000000}, "told": {0, 1000000}, "down": {}}},
		{"Lease", func(w *impl.Worker, n int) { w.Lease = n }, limits{"free": {}, "busy": {1, 300000000}, "told": {1, 300000000}, "down": {}}},
		{"Task", func(w *impl.Worker, n int) { w.Task = n }, limits{"free": {}, "busy": {0, 39}, "told": {0, 39}, "down": {}}},
		{"Cost", func(w *impl.Worker, n int) { w.Cost = n }, limits{"free": {}, "busy": {15, 20}, "told": {}, "down": {}}},
		{"Cost and Left", func(w *impl.Worker, n int) { w.Cost, w.Left = n, n }, limits{"free": {}, "busy": {1, 20}, "told": {}, "down": {}}},
		{"Left", func(w *impl.Worker, n int) { w.Left = n }, limits{"free": {}, "busy": {1, 20}, "told": {}, "down": {}}},
		{"State", func(w *impl.Worker, n int) { w.State = n }, limits{"free": {0, 0}, "busy": {1, 1}, "told": {2, 2}, "down": {0, 0}}},
	} {
		for name, w := range sampleWorkers() {
			for _, n := range numbers {
				with := workerWith(w, func(w *impl.Worker) { f.set(w, n) })
				want := f.in[name][0] <= n && n <= f.in[name][1]
				if got := impl.ValidWorker(with); got != want {
					t.Errorf("a %s worker with %s %d: %v", name, f.name, n, got)
				}
			}
		}
	}
}

func TestTextsOfWorkers(t *testing.T) {
	for name, w := range sampleWorkers() {
		for _, n := range []int{0, 1, 7, 8, 9, 16, 300} {
			w.Text = strings.Repeat("r", n)
			if got := impl.ValidWorker(w); got != (name == "told" && n == 8 || name != "told" && n == 0) {
				t.Errorf("a %s worker with a text of %d bytes: %v", name, n, got)
			}
		}
	}
}

func TestInputsOfWorkers(t *testing.T) {
	for name, w := range sampleWorkers() {
		for _, n := range []int{0, 1, 7, 8, 9, 256} {
			w.Inputs = texts(n)
			if got := impl.ValidWorker(w); got != (name == "busy" && n <= 8 || n == 0) {
				t.Errorf("a %s worker with %d inputs: %v", name, n, got)
			}
		}
		for _, inputs := range [][]string{{""}, {"seven77"}, {"nine99999"}, {"eight888", ""}, {"seven77", "nine99999"}} {
			w.Inputs = inputs
			if impl.ValidWorker(w) {
				t.Errorf("a %s worker with inputs %q is valid", name, inputs)
			}
		}
	}
}

func TestDownWorkersAreFree(t *testing.T) {
	for name, w := range sampleWorkers() {
		w.Up = false
		if got := impl.ValidWorker(w); got != (w.State == impl.WorkFree) {
			t.Errorf("a %s worker that is not Up: %v", name, got)
		}
	}
}

func checkActed(t *testing.T, what string, got, want impl.Acted) {
	t.Helper()
	if !reflect.DeepEqual(cloneActed(got), cloneActed(want)) {
		t.Fatalf("%s:\n got %+v\nwant %+v", what, got, want)
	}
}

func checkWorker(t *testing.T, what string, got, want impl.Worker) {
	t.Helper()
	if !reflect.DeepEqual(cloneWorker(got), cloneWorker(want)) {
		t.Fatalf("%s:\n got %+v\nwant %+v", what, got, want)
	}
}

// checkTelling asks that all that a worker tells is valid, to the coordinator, from its number and epoch.
func checkTelling(t *testing.T, w impl.Worker, out []impl.Message) {
	t.Helper()
	for _, m := range out {
		if impl.FormMessage(m, "key") == "" || m.From != w.Number || m.Epoch != w.Epoch || m.To != 0 {
			t.Fatalf("%+v tells %+v", w, m)
		}
	}
}

func TestWrongWorkersAndPlansGiveNothing(t *testing.T) {
	p, offer := crewPlan(), impl.Message{Kind: impl.MsgOffer, To: 2, Epoch: 1, Lease: 800}
	for i, w := range wrongWorkers() {
		if impl.ValidWorker(w) {
			t.Errorf("case %d: %+v is valid", i, w)
		}
		checkActed(t, "a tick of a wrong worker", impl.WorkerTick(w, p), impl.Acted{})
		for _, m := range []impl.Message{offer, {Kind: impl.MsgThanks, To: 2, Epoch: 1, Lease: 700}, {}} {
			checkActed(t, "a wrong worker takes", impl.WorkerTake(w, p, m), impl.Acted{})
		}
		checkWorker(t, "the fall of a wrong worker", impl.WorkerFall(w), impl.Worker{})
		checkWorker(t, "the rise of a wrong worker", impl.WorkerRise(w), impl.Worker{})
	}
	for _, plans := range wrongPlans() {
		for _, p := range plans {
			for _, w := range sampleWorkers() {
				checkActed(t, "a tick with a wrong plan", impl.WorkerTick(w, p), impl.Acted{})
				checkActed(t, "taking with a wrong plan", impl.WorkerTake(w, p, offer), impl.Acted{})
				checkActed(t, "taking nothing with a wrong plan", impl.WorkerTake(w, p, impl.Message{}), impl.Acted{})
			}
		}
	}
}

// tickWanted is a tick as the document says it.
func tickWanted(w impl.Worker, p impl.Plan) impl.Acted {
	if !w.Up {
		return impl.Acted{Worker: w}
	}
	w.Since++
	tell := impl.Message{From: w.Number, Epoch: w.Epoch, Lease: w.Lease}
	switch {
	case w.State == impl.WorkBusy && w.Left == 1:
		name := ""
		if w.Task < len(p.Tasks) {
			name = p.Tasks[w.Task].Name
		}
		w.State, w.Text = impl.WorkTold, valueOf(name, w.Inputs...)
		w.Cost, w.Left, w.Inputs = 0, 0, nil
		tell.Kind, tell.Task, tell.Text = impl.MsgResult, w.Task, w.Text
	case w.State == impl.WorkBusy:
		w.Left--
		if w.Since >= 4 {
			tell.Kind = impl.MsgBeat
		}
	case w.State == impl.WorkTold && w.Since >= 4:
		tell.Kind, tell.Task, tell.Text = impl.MsgResult, w.Task, w.Text
	case w.State == impl.WorkFree && w.Since >= 3:
		tell.Kind = impl.MsgHere
	}
	if tell.Kind == 0 {
		return impl.Acted{Worker: w}
	}
	w.Since = 0
	return impl.Acted{Worker: w, Out: []impl.Message{tell}}
}

func TestTicks(t *testing.T) {
	plans := []impl.Plan{crewPlan(), plainPlan(1), plainPlan(40)}
	for _, w := range validWorkers() {
		for _, p := range plans {
			got := impl.WorkerTick(w, p)
			checkActed(t, "a tick", got, tickWanted(w, p))
			if !impl.ValidWorker(got.Worker) {
				t.Fatalf("a tick made %+v of %+v", got.Worker, w)
			}
			checkTelling(t, w, got.Out)
		}
	}
}

// TestWhenWorkersTell names by hand after which Since a worker tells something, and what.
func TestWhenWorkersTell(t *testing.T) {
	last := workerWith(busyWorker(), func(w *impl.Worker) { w.Left = 1 })
	for _, c := range []struct {
		w     impl.Worker
		since int
		kind  int
	}{
		{freeWorker(), 0, 0}, {freeWorker(), 1, 0}, {freeWorker(), 2, impl.MsgHere}, {freeWorker(), 3, impl.MsgHere}, {freeWorker(), 999999, impl.MsgHere}, {freeWorker(), 1000000, impl.MsgHere},
		{busyWorker(), 0, 0}, {busyWorker(), 2, 0}, {busyWorker(), 3, impl.MsgBeat}, {busyWorker(), 4, impl.MsgBeat}, {busyWorker(), 999999, impl.MsgBeat}, {busyWorker(), 1000000, impl.MsgBeat},
		{toldWorker(), 0, 0}, {toldWorker(), 2, 0}, {toldWorker(), 3, impl.MsgResult}, {toldWorker(), 4, impl.MsgResult}, {toldWorker(), 999999, impl.MsgResult}, {toldWorker(), 1000000, impl.MsgResult},
		{last, 0, impl.MsgResult}, {last, 3, impl.MsgResult}, {last, 1000000, impl.MsgResult},
		{downWorker(), 0, 0},
	} {
		c.w.Since = c.since
		a := impl.WorkerTick(c.w, crewPlan())
		if c.kind == 0 {
			want := c.since + 1
			if !c.w.Up {
				want = 0
			}
			if len(a.Out) != 0 || a.Worker.Since != want {
				t.Errorf("%+v: %+v", c.w, a)
			}
		} else if len(a.Out) != 1 || a.Out[0].Kind != c.kind || a.Worker.Since != 0 {
			t.Errorf("%+v: %+v", c.w, a)
		}
	}
}

// TestUnknownTask: a busy worker may hold a task that the plan does not have.
func TestUnknownTask(t *testing.T) {
	for _, task := range []int{9, 10, 39} {
		w := workerWith(busyWorker(), func(w *impl.Worker) { w.Task, w.Left = task, 1 })
		want := valueOf("", w.Inputs...)
		if task == 9 {
			want = valueOf("t9", w.Inputs...)
		}
		a := impl.WorkerTick(w, crewPlan())
		if len(a.Out) != 1 || a.Out[0].Text != want || a.Out[0].Task != task || a.Worker.Text != want {
			t.Errorf("task %d: %+v", task, a)
		}
	}
}

// takeWanted is what becomes of a worker that is given a valid message, as the document says it.
func takeWanted(w impl.Worker, p impl.Plan, m impl.Message) impl.Worker {
	if !w.Up || m.To != w.Number {
		return w
	}
	if m.Kind == impl.MsgThanks && w.State == impl.WorkTold && w.Lease == m.Lease {
		return impl.Worker{Number: w.Number, Epoch: w.Epoch, Up: true, Since: 3}
	}
	if m.Kind != impl.MsgOffer || m.Task >= len(p.Tasks) || len(m.Inputs) != len(p.Tasks[m.Task].Deps) {
		return w
	}
	if w.State == impl.WorkFree || w.Lease < m.Lease {
		cost := p.Tasks[m.Task].Cost
		return impl.Worker{Number: w.Number, Epoch: w.Epoch, Up: true, State: impl.WorkBusy, Lease: m.Lease, Task: m.Task, Cost: cost, Left: cost, Inputs: m.Inputs}
	}
	return w
}

func checkTake(t *testing.T, w impl.Worker, p impl.Plan, m impl.Message, want impl.Worker) impl.Worker {
	t.Helper()
	got := impl.WorkerTake(w, p, m)
	if len(got.Out) != 0 {
		t.Fatalf("taking tells %+v", got.Out)
	}
	checkWorker(t, "taking", got.Worker, want)
	if !impl.ValidWorker(got.Worker) {
		t.Fatalf("%+v made %+v of %+v", m, got.Worker, w)
	}
	return got.Worker
}

func TestTakingAnyMessage(t *testing.T) {
	p := crewPlan()
	r := rand.New(rand.NewSource(5))
	all, crew := messages(), validWorkers()
	for range 100000 {
		w, m := crew[r.Intn(len(crew))], all[r.Intn(len(all))]
		checkTake(t, w, p, m, takeWanted(w, p, m))
	}
}

func TestOffers(t *testing.T) {
	p := crewPlan()
	for name, w := range sampleWorkers() {
		w.Since = map[string]int{"free": 2, "busy": 3, "told": 1}[name]
		for _, lease := range []int{1, 699, 700, 701, 300000000} {
			m := impl.Message{Kind: impl.MsgOffer, To: 2, Epoch: 300, Lease: lease, Task: 8, Inputs: texts(8)}
			want := w
			if name == "free" || name != "down" && lease > 700 {
				want = impl.Worker{Number: 2, Epoch: 3, Up: true, State: impl.WorkBusy, Lease: lease, Task: 8, Cost: 9, Left: 9, Inputs: texts(8)}
			}
			checkTake(t, w, p, m, want)
		}
	}
}

func TestOffersThatDoNotFit(t *testing.T) {
	p := crewPlan()
	good := impl.Message{Kind: impl.MsgOffer, To: 2, Epoch: 1, Lease: 900, Task: 2, Inputs: texts(2)}
	for name, w := range sampleWorkers() {
		for task := range 12 {
			for n := range 10 {
				m := good
				m.Task, m.Inputs = task, texts(n)
				fits := w.Up && task < 10 && n == len(p.Tasks[task].Deps)
				got := impl.WorkerTake(w, p, m).Worker
				if fits != (got.Lease == 900) {
					t.Errorf("a %s worker is offered task %d with %d inputs: %+v", name, task, n, got)
				}
				if !fits {
					checkWorker(t, "an offer that does not fit", got, w)
				}
			}
		}
		for what, change := range map[string]func(m *impl.Message){
			"to another":       func(m *impl.Message) { m.To = 1 },
			"to the next":      func(m *impl.Message) { m.To = 3 },
			"to nobody":        func(m *impl.Message) { m.To = 0 },
			"from a worker":    func(m *impl.Message) { m.From = 1 },
			"no epoch":         func(m *impl.Message) { m.Epoch = 0 },
			"an epoch too far": func(m *impl.Message) { m.Epoch = 301 },
			"no lease":         func(m *impl.Message) { m.Lease = 0 },
			"a lease too far":  func(m *impl.Message) { m.Lease = 300000001 },
			"a lease below 0":  func(m *impl.Message) { m.Lease = math.MinInt },
			"a task below 0":   func(m *impl.Message) { m.Task = -1 },
			"a task too far":   func(m *impl.Message) { m.Task = math.MaxInt },
			"a text":           func(m *impl.Message) { m.Text = "eight888" },
			"a short input":    func(m *impl.Message) { m.Inputs[1] = "seven77" },
			"no kind":          func(m *impl.Message) { m.Kind = 0 },
			"a kind too far":   func(m *impl.Message) { m.Kind = 6 },
			"a thanks":         func(m *impl.Message) { m.Kind = impl.MsgThanks },
		} {
			m := cloneMessage(good)
			change(&m)
			if got := impl.WorkerTake(w, p, m); !reflect.DeepEqual(cloneActed(got), cloneActed(impl.Acted{Worker: w})) {
				t.Errorf("a %s worker takes an offer with %s: %+v", name, what, got)
			}
		}
	}
}

func TestThanks(t *testing.T) {
	p := crewPlan()
	for name, w := range sampleWorkers() {
		for _, since := range []int{0, 1, 4, 1000000} {
			if w.Up {
				w.Since = since
			}
			for _, lease := range []int{1, 699, 700, 701, 300000000} {
				want := w
				if name == "told" && lease == 700 {
					want = impl.Worker{Number: 2, Epoch: 3, Up: true, Since: 3}
				}
				checkTake(t, w, p, impl.Message{Kind: impl.MsgThanks, To: 2, Epoch: 9, Lease: lease}, want)
				checkTake(t, w, p, impl.Message{Kind: impl.MsgThanks, To: 3, Epoch: 9, Lease: lease}, w)
				for _, m := range []impl.Message{
					{Kind: impl.MsgThanks, To: 2, Lease: lease},
					{Kind: impl.MsgThanks, To: 2, Epoch: 9, Lease: lease, Task: 2},
					{Kind: impl.MsgThanks, From: 2, Epoch: 9, Lease: lease},
					{Kind: impl.MsgBeat, From: 2, Epoch: 9, Lease: lease},
					{Kind: impl.MsgBeat, To: 2, Epoch: 9, Lease: lease},
					{Kind: impl.MsgResult, From: 2, Epoch: 9, Lease: lease, Task: 2, Text: "eight888"},
					{Kind: impl.MsgHere, From: 2, Epoch: 9},
				} {
					checkTake(t, w, p, m, w)
				}
			}
		}
	}
	told := impl.WorkerTake(toldWorker(), p, impl.Message{Kind: impl.MsgThanks, To: 2, Epoch: 9, Lease: 700}).Worker
	if a := impl.WorkerTick(told, p); len(a.Out) != 1 || a.Out[0].Kind != impl.MsgHere {
		t.Errorf("one that was thanked tells %+v", a.Out)
	}
}

func TestFallAndRise(t *testing.T) {
	for _, w := range validWorkers() {
		down := impl.WorkerFall(w)
		checkWorker(t, "a fall", down, impl.Worker{Number: w.Number, Epoch: w.Epoch})
		checkWorker(t, "a second fall", impl.WorkerFall(down), down)
		if w.Up {
			checkWorker(t, "a rise of one that is Up", impl.WorkerRise(w), w)
		}
		up := impl.WorkerRise(down)
		if w.Epoch == 300 {
			checkWorker(t, "a rise in the last epoch", up, down)
		} else {
			checkWorker(t, "a rise", up, impl.Worker{Number: w.Number, Epoch: w.Epoch + 1, Up: true, Since: 3})
			checkWorker(t, "a second rise", impl.WorkerRise(up), up)
		}
		if !impl.ValidWorker(down) || !impl.ValidWorker(up) {
			t.Fatalf("%+v falls to %+v and rises to %+v", w, down, up)
		}
	}
}

func TestDownWorkersDoNothing(t *testing.T) {
	p := crewPlan()
	for _, epoch := range []int{1, 300} {
		w := impl.Worker{Number: 2, Epoch: epoch}
		for range 10 {
			checkActed(t, "a tick of one that is not Up", impl.WorkerTick(w, p), impl.Acted{Worker: w})
		}
		for _, m := range messages() {
			checkTake(t, w, p, m, w)
		}
	}
}

// TestOneTask leads a worker by hand from an offer to thanks.
func TestOneTask(t *testing.T) {
	p := crewPlan()
	for task, k := range p.Tasks {
		inputs := texts(len(k.Deps))
		want := valueOf(k.Name, inputs...)
		w := impl.WorkerTake(freeWorker(), p, impl.Message{Kind: impl.MsgOffer, To: 2, Epoch: 1, Lease: 5, Task: task, Inputs: inputs}).Worker
		for n := 1; n < k.Cost; n++ {
			a := impl.WorkerTick(w, p)
			if beat := n%4 == 0; beat != (len(a.Out) == 1) || beat && !reflect.DeepEqual(cloneMessage(a.Out[0]), impl.Message{Kind: impl.MsgBeat, From: 2, Epoch: 3, Lease: 5}) {
				t.Fatalf("tick %d of %d: %+v", n, k.Cost, a.Out)
			}
			w = a.Worker
		}
		result := impl.Message{Kind: impl.MsgResult, From: 2, Epoch: 3, Lease: 5, Task: task, Text: want}
		for n := range 13 {
			a := impl.WorkerTick(w, p)
			if tell := n%4 == 0; tell != (len(a.Out) == 1) || tell && !reflect.DeepEqual(cloneMessage(a.Out[0]), result) {
				t.Fatalf("tick %d behind its Cost: %+v", n, a.Out)
			}
			w = impl.WorkerTake(a.Worker, p, impl.Message{Kind: impl.MsgThanks, To: 2, Epoch: 1, Lease: 4}).Worker
		}
		w = impl.WorkerTake(w, p, impl.Message{Kind: impl.MsgThanks, To: 2, Epoch: 1, Lease: 5}).Worker
		checkWorker(t, "behind thanks", w, impl.Worker{Number: 2, Epoch: 3, Up: true, Since: 3})
	}
}

func randomTaken(r *rand.Rand, p impl.Plan) impl.Message {
	m := impl.Message{Kind: impl.MsgThanks, To: 1 + r.Intn(2), Epoch: 1 + r.Intn(300), Lease: 1 + r.Intn(40)}
	if r.Intn(3) > 0 {
		m.Kind, m.Task = impl.MsgOffer, r.Intn(len(p.Tasks)+1)%impl.MaxTasks
		n := r.Intn(4)
		if m.Task < len(p.Tasks) && r.Intn(8) > 0 {
			n = len(p.Tasks[m.Task].Deps)
		}
		for range n {
			b := make([]byte, 8)
			r.Read(b)
			m.Inputs = append(m.Inputs, string(b))
		}
	}
	if r.Intn(10) == 0 {
		m.Epoch = 0
	}
	return m
}

// TestWorkersLives leads workers through long lives of chance and asks at each step for P4 and P5.
func TestWorkersLives(t *testing.T) {
	r := rand.New(rand.NewSource(6))
	results := 0
	for range 60 {
		p := randomPlan(r)
		w := impl.Worker{Number: 1 + r.Intn(2), Epoch: 1, Up: true, Since: 3}
		var handed impl.Message
		for range 2000 {
			var out []impl.Message
			switch n := r.Intn(100); {
			case n < 2:
				w = impl.WorkerFall(w)
			case n < 6:
				w = impl.WorkerRise(w)
			case n < 12:
				m := randomTaken(r, p)
				a := impl.WorkerTake(w, p, m)
				if a.Worker.State == impl.WorkBusy && (w.State != impl.WorkBusy || w.Lease != a.Worker.Lease) {
					handed = m
				}
				w, out = a.Worker, a.Out
			default:
				a := impl.WorkerTick(w, p)
				w, out = a.Worker, a.Out
			}
			if !impl.ValidWorker(w) {
				t.Fatalf("%+v is not valid", w)
			}
			checkTelling(t, w, out)
			for _, m := range out {
				if m.Kind == impl.MsgResult {
					results++
					if m.Lease != handed.Lease || m.Task != handed.Task || m.Text != valueOf(p.Tasks[handed.Task].Name, handed.Inputs...) {
						t.Fatalf("handed %+v, told %+v", handed, m)
					}
				}
			}
		}
	}
	if results < 1000 {
		t.Errorf("only %d results were told", results)
	}
}

// TestWorkersAreNewMemory spoils what was handed in, and what came out, and looks at the other.
func TestWorkersAreNewMemory(t *testing.T) {
	p := crewPlan()
	offer := impl.Message{Kind: impl.MsgOffer, To: 2, Epoch: 1, Lease: 900, Task: 2}
	for what, act := range map[string]func(w impl.Worker, m impl.Message) impl.Worker{
		"tick":       func(w impl.Worker, m impl.Message) impl.Worker { return impl.WorkerTick(w, p).Worker },
		"take":       func(w impl.Worker, m impl.Message) impl.Worker { return impl.WorkerTake(w, p, m).Worker },
		"take other": func(w impl.Worker, m impl.Message) impl.Worker { m.To = 1; return impl.WorkerTake(w, p, m).Worker },
		"rise":       func(w impl.Worker, m impl.Message) impl.Worker { return impl.WorkerRise(w) },
	} {
		room, sent := append(texts(2), "behind"), append(texts(2), "behind")
		w, m := busyWorker(), offer
		w.Inputs, m.Inputs = room[:2], sent[:2]
		got := act(w, m)
		for i := range got.Inputs[:cap(got.Inputs)] {
			got.Inputs[:cap(got.Inputs)][i] = "spoiled!"
		}
		want := append(texts(2), "behind")
		if !reflect.DeepEqual(room, want) || !reflect.DeepEqual(sent, want) {
			t.Errorf("%s: an argument was changed: %q, %q", what, room, sent)
		}
		got = act(w, m)
		for i := range room {
			room[i], sent[i] = "spoiled!", "spoiled!"
		}
		if !reflect.DeepEqual(got.Inputs, texts(2)) {
			t.Errorf("%s: the answer shares memory with an argument: %q", what, got.Inputs)
		}
	}
	// A list without entries may still have room behind it.
	down := downWorker()
	down.Inputs = texts(2)[:0]
	for what, got := range map[string]impl.Worker{"tick": impl.WorkerTick(down, p).Worker, "take": impl.WorkerTake(down, p, offer).Worker, "fall": impl.WorkerFall(down), "rise": impl.WorkerRise(down)} {
		if cap(got.Inputs) != 0 {
			t.Errorf("%s: the room behind an empty list is in the answer", what)
		}
	}
}

func TestWorkersLeavePlans(t *testing.T) {
	p := crewPlan()
	w := workerWith(busyWorker(), func(w *impl.Worker) { w.Left = 1 })
	impl.WorkerTick(w, p)
	impl.WorkerTake(w, p, impl.Message{Kind: impl.MsgOffer, To: 2, Epoch: 1, Lease: 900})
	if !reflect.DeepEqual(p, crewPlan()) {
		t.Error("the plan was changed")
	}
}
